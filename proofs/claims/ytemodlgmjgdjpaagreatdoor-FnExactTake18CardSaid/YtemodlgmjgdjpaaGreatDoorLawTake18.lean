/-
  The law FnExactTake18 returns true at every argument and writes nothing that was there: the walk. No condition.
-/
import Derived.Test.YtemodlgmjgdjpaaGreatDoorTkJn
import Derived.Test.YtemodlgmjgdjpaaGreatDoorMLdMk
import Derived.Test.YtemodlgmjgdjpaaGreatDoorMMake
import Derived.Test.YtemodlgmjgdjpaaGreatDoorMFrac
import Derived.Test.YtemodlgmjgdjpaaGreatDoorRegInv
import Derived.Deep.RegionHeld3
namespace Go.Proofs.YtemodlgmjgdjpaaGreatDoor
open Go.RowKit
structure Take18Rspec0 (w3 : World) (sn : Int) (da1 : Option Addr) (dl1 : Nat) (dc1 : Nat) (zs : List Lc) (p : ByteArray) (nb : Int) (le : Int) (mo : Int) (ne : Int) (va1 : Option Addr) (vl1 : Nat) (vc1 : Nat) (ys : List Int) (sl : Int) (t0 t1 t2 t3 t4 t5 t6 t7 t8 t9 t10 t11 : Bool) (v0 v1 v2 v3 v4 v5 v6 v7 v8 v9 v11 : Value) (W : World) : Prop where
  bel : Below w3.heap.size w3 W
  e0 : t0 = true → v0 = .agg #[.int .i64 sn, .slice da1 dl1 dc1]
  e1 : t1 = true → t5 = false → ∃ g3, v1 = .agg #[.int .i64 sn, .slice (some ⟨g3, 0, none⟩) dl1 dl1] ∧ AbOwn W w3.heap.size (some ⟨g3, 0, none⟩) dl1 dl1 zs
  e2 : t2 = true → v2 = .agg #[.string p, .int .i64 nb, .int .i64 le, .int .i64 mo, .int .i64 ne, .slice va1 vl1 vc1]
  e3 : t3 = true → t5 = false → ∃ g4, v3 = .agg #[.string p, .int .i64 nb, .int .i64 le, .int .i64 mo, .int .i64 ne, .slice (some ⟨g4, 0, none⟩) vl1 vl1] ∧ LdOwn W w3.heap.size (some ⟨g4, 0, none⟩) vl1 vl1 ys
  e4 : t4 = true → v4 = .int .i64 sl
  e5 : t5 = true → t10 = false → ∃ za zc zb zu, v5 = .tuple #[.agg #[.int .i64 sn, .slice za ((tkL sn zs ⟨p, nb, le, mo, ne, ys⟩ sl).length) zc], .int .i64 (tkC sn zs ⟨p, nb, le, mo, ne, ys⟩ sl)] ∧ AbIs W zb zu za ((tkL sn zs ⟨p, nb, le, mo, ne, ys⟩ sl).length) zc (tkL sn zs ⟨p, nb, le, mo, ne, ys⟩ sl) ∧ w3.heap.size ≤ zb ∧ zu ≤ W.heap.size ∧ (∀ P, t9 = true → v9 = .pointer (some ⟨P, 0, none⟩) → P < zb ∨ zu ≤ P)
  q5 : t5 = true → ∃ q, v5 = .tuple #[q, .int .i64 (tkC sn zs ⟨p, nb, le, mo, ne, ys⟩ sl)]
  e6 : t6 = true → t10 = false → ∃ za zc zb zu, v6 = .tuple #[.agg #[.int .i64 sn, .slice za ((tkL sn zs ⟨p, nb, le, mo, ne, ys⟩ sl).length) zc], .int .i64 (tkC sn zs ⟨p, nb, le, mo, ne, ys⟩ sl)] ∧ AbIs W zb zu za ((tkL sn zs ⟨p, nb, le, mo, ne, ys⟩ sl).length) zc (tkL sn zs ⟨p, nb, le, mo, ne, ys⟩ sl) ∧ w3.heap.size ≤ zb ∧ zu ≤ W.heap.size ∧ (∀ P, t9 = true → v9 = .pointer (some ⟨P, 0, none⟩) → P < zb ∨ zu ≤ P)
  q6 : t6 = true → ∃ q, v6 = .tuple #[q, .int .i64 (tkC sn zs ⟨p, nb, le, mo, ne, ys⟩ sl)]
  c6 : t6 = true → t5 = true
  e7 : t7 = true → t10 = false → ∃ za zc zb zu, v7 = .agg #[.int .i64 sn, .slice za ((tkL sn zs ⟨p, nb, le, mo, ne, ys⟩ sl).length) zc] ∧ AbIs W zb zu za ((tkL sn zs ⟨p, nb, le, mo, ne, ys⟩ sl).length) zc (tkL sn zs ⟨p, nb, le, mo, ne, ys⟩ sl) ∧ w3.heap.size ≤ zb ∧ zu ≤ W.heap.size ∧ (∀ P, t9 = true → v9 = .pointer (some ⟨P, 0, none⟩) → P < zb ∨ zu ≤ P)
  c7 : t7 = true → t5 = true
  e8 : t8 = true → v8 = .int .i64 (tkC sn zs ⟨p, nb, le, mo, ne, ys⟩ sl)
  c8 : t8 = true → t5 = true
  e9 : t9 = true → t10 = false → ∃ P, v9 = .pointer (some ⟨P, 0, none⟩) ∧ w3.heap.size ≤ P ∧ Blk W P [.int .i64 0, .slice none 0 0]
  f9 : t10 = true → ∃ P za zc zb zu, v9 = .pointer (some ⟨P, 0, none⟩) ∧ w3.heap.size ≤ P ∧ Blk W P [.int .i64 sn, .slice za ((tkL sn zs ⟨p, nb, le, mo, ne, ys⟩ sl).length) zc] ∧ AbIs W zb zu za ((tkL sn zs ⟨p, nb, le, mo, ne, ys⟩ sl).length) zc (tkL sn zs ⟨p, nb, le, mo, ne, ys⟩ sl) ∧ w3.heap.size ≤ zb ∧ zu ≤ W.heap.size ∧ (P < zb ∨ zu ≤ P)
  n10 : t10 = true → t9 = true
  e11 : t11 = true → v11 = .int .i64 (tkC sn zs ⟨p, nb, le, mo, ne, ys⟩ sl)
  i10_7 : t10 = true → t7 = true
  i7_6 : t7 = true → t6 = true
  i6_5 : t6 = true → t5 = true
theorem Take18Rspec0.below {w3 : World} {sn : Int} {da1 : Option Addr} {dl1 : Nat} {dc1 : Nat} {zs : List Lc} {p : ByteArray} {nb : Int} {le : Int} {mo : Int} {ne : Int} {va1 : Option Addr} {vl1 : Nat} {vc1 : Nat} {ys : List Int} {sl : Int} {t0 t1 t2 t3 t4 t5 t6 t7 t8 t9 t10 t11 : Bool} {v0 v1 v2 v3 v4 v5 v6 v7 v8 v9 v11 : Value} {W W' : World} (K : Take18Rspec0 w3 sn da1 dl1 dc1 zs p nb le mo ne va1 vl1 vc1 ys sl t0 t1 t2 t3 t4 t5 t6 t7 t8 t9 t10 t11 v0 v1 v2 v3 v4 v5 v6 v7 v8 v9 v11 W) (k : Below W.heap.size W W') : Take18Rspec0 w3 sn da1 dl1 dc1 zs p nb le mo ne va1 vl1 vc1 ys sl t0 t1 t2 t3 t4 t5 t6 t7 t8 t9 t10 t11 v0 v1 v2 v3 v4 v5 v6 v7 v8 v9 v11 W' :=
  ⟨K.bel.trans (k.mono K.bel.size), K.e0, fun h1 h2 => by obtain ⟨g3, x1, x2⟩ := K.e1 h1 h2; exact ⟨g3, x1, x2.below k⟩, K.e2, fun h1 h2 => by obtain ⟨g4, x1, x2⟩ := K.e3 h1 h2; exact ⟨g4, x1, x2.below k⟩, K.e4, fun h1 h2 => by obtain ⟨za, zc, zb, zu, x1, x2, x3, x4, x5⟩ := K.e5 h1 h2; exact ⟨za, zc, zb, zu, x1, x2.below k, x3, Nat.le_trans x4 k.size, x5⟩, K.q5, fun h1 h2 => by obtain ⟨za, zc, zb, zu, x1, x2, x3, x4, x5⟩ := K.e6 h1 h2; exact ⟨za, zc, zb, zu, x1, x2.below k, x3, Nat.le_trans x4 k.size, x5⟩, K.q6, K.c6, fun h1 h2 => by obtain ⟨za, zc, zb, zu, x1, x2, x3, x4, x5⟩ := K.e7 h1 h2; exact ⟨za, zc, zb, zu, x1, x2.below k, x3, Nat.le_trans x4 k.size, x5⟩, K.c7, K.e8, K.c8, fun h1 h2 => by obtain ⟨P, x1, x2, x3⟩ := K.e9 h1 h2; exact ⟨P, x1, x2, x3.below k⟩, fun h => by obtain ⟨P, za, zc, zb, zu, x1, x2, x3, x4, x5, x6, x7⟩ := K.f9 h; exact ⟨P, za, zc, zb, zu, x1, x2, x3.below k, x4.below k, x5, Nat.le_trans x6 k.size, x7⟩, K.n10, K.e11, K.i10_7, K.i7_6, K.i6_5⟩
def Take18Rspec0J (w3 : World) (sn : Int) (da1 : Option Addr) (dl1 : Nat) (dc1 : Nat) (zs : List Lc) (p : ByteArray) (nb : Int) (le : Int) (mo : Int) (ne : Int) (va1 : Option Addr) (vl1 : Nat) (vc1 : Nat) (ys : List Int) (sl : Int) (A0 : Act) (l : Nat → Bool) (a : Act) (V : World) : Prop := ∃ (v0 v1 v2 v3 v4 v5 v6 v7 v8 v9 v11 : Value), a = (((((((((((A0.put (some 30) v0).put (some 31) v1).put (some 32) v2).put (some 33) v3).put (some 34) v4).put (some 35) v5).put (some 29) v6).put (some 36) v7).put (some 37) v8).put (some 8) v9).put (some 9) v11) ∧ Take18Rspec0 w3 sn da1 dl1 dc1 zs p nb le mo ne va1 vl1 vc1 ys sl (l 0) (l 1) (l 2) (l 3) (l 4) (l 5) (l 6) (l 7) (l 8) (l 9) (l 10) (l 11) v0 v1 v2 v3 v4 v5 v6 v7 v8 v9 v11 V
theorem Take18Rspec0J.mk {w3 : World} {sn : Int} {da1 : Option Addr} {dl1 : Nat} {dc1 : Nat} {zs : List Lc} {p : ByteArray} {nb : Int} {le : Int} {mo : Int} {ne : Int} {va1 : Option Addr} {vl1 : Nat} {vc1 : Nat} {ys : List Int} {sl : Int} {A0 : Act} {l : Nat → Bool} {a : Act} {V : World} {v0 v1 v2 v3 v4 v5 v6 v7 v8 v9 v11 : Value} (K : Take18Rspec0 w3 sn da1 dl1 dc1 zs p nb le mo ne va1 vl1 vc1 ys sl (l 0) (l 1) (l 2) (l 3) (l 4) (l 5) (l 6) (l 7) (l 8) (l 9) (l 10) (l 11) v0 v1 v2 v3 v4 v5 v6 v7 v8 v9 v11 V) (h : a = (((((((((((A0.put (some 30) v0).put (some 31) v1).put (some 32) v2).put (some 33) v3).put (some 34) v4).put (some 35) v5).put (some 29) v6).put (some 36) v7).put (some 37) v8).put (some 8) v9).put (some 9) v11)) : Take18Rspec0J w3 sn da1 dl1 dc1 zs p nb le mo ne va1 vl1 vc1 ys sl A0 l a V := ⟨v0, v1, v2, v3, v4, v5, v6, v7, v8, v9, v11, h, K⟩

structure Take18Rimpl1 (w20 : World) (sn : Int) (da1 : Option Addr) (dl1 : Nat) (dc1 : Nat) (zs : List Lc) (p : ByteArray) (nb : Int) (le : Int) (mo : Int) (ne : Int) (va1 : Option Addr) (vl1 : Nat) (vc1 : Nat) (ys : List Int) (sl : Int) (t0 t1 t2 t3 t4 t5 t6 t7 t8 t9 t10 t11 : Bool) (v0 v1 v2 v3 v4 v5 v6 v7 v8 v9 v11 : Value) (W : World) : Prop where
  bel : Below w20.heap.size w20 W
  e0 : t0 = true → v0 = .agg #[.int .i64 sn, .slice da1 dl1 dc1]
  e1 : t1 = true → t5 = false → ∃ g19, v1 = .agg #[.int .i64 sn, .slice (some ⟨g19, 0, none⟩) dl1 dl1] ∧ AbOwn W w20.heap.size (some ⟨g19, 0, none⟩) dl1 dl1 zs
  e2 : t2 = true → v2 = .agg #[.string p, .int .i64 nb, .int .i64 le, .int .i64 mo, .int .i64 ne, .slice va1 vl1 vc1]
  e3 : t3 = true → t5 = false → ∃ g20, v3 = .agg #[.string p, .int .i64 nb, .int .i64 le, .int .i64 mo, .int .i64 ne, .slice (some ⟨g20, 0, none⟩) vl1 vl1] ∧ LdOwn W w20.heap.size (some ⟨g20, 0, none⟩) vl1 vl1 ys
  e4 : t4 = true → v4 = .int .i64 sl
  e5 : t5 = true → t10 = false → ∃ za zc zb zu, v5 = .tuple #[.agg #[.int .i64 sn, .slice za ((tkL sn zs ⟨p, nb, le, mo, ne, ys⟩ sl).length) zc], .int .i64 (tkC sn zs ⟨p, nb, le, mo, ne, ys⟩ sl)] ∧ AbIs W zb zu za ((tkL sn zs ⟨p, nb, le, mo, ne, ys⟩ sl).length) zc (tkL sn zs ⟨p, nb, le, mo, ne, ys⟩ sl) ∧ w20.heap.size ≤ zb ∧ zu ≤ W.heap.size ∧ (∀ P, t9 = true → v9 = .pointer (some ⟨P, 0, none⟩) → P < zb ∨ zu ≤ P)
  q5 : t5 = true → ∃ q, v5 = .tuple #[q, .int .i64 (tkC sn zs ⟨p, nb, le, mo, ne, ys⟩ sl)]
  e6 : t6 = true → t10 = false → ∃ za zc zb zu, v6 = .tuple #[.agg #[.int .i64 sn, .slice za ((tkL sn zs ⟨p, nb, le, mo, ne, ys⟩ sl).length) zc], .int .i64 (tkC sn zs ⟨p, nb, le, mo, ne, ys⟩ sl)] ∧ AbIs W zb zu za ((tkL sn zs ⟨p, nb, le, mo, ne, ys⟩ sl).length) zc (tkL sn zs ⟨p, nb, le, mo, ne, ys⟩ sl) ∧ w20.heap.size ≤ zb ∧ zu ≤ W.heap.size ∧ (∀ P, t9 = true → v9 = .pointer (some ⟨P, 0, none⟩) → P < zb ∨ zu ≤ P)
  q6 : t6 = true → ∃ q, v6 = .tuple #[q, .int .i64 (tkC sn zs ⟨p, nb, le, mo, ne, ys⟩ sl)]
  c6 : t6 = true → t5 = true
  e7 : t7 = true → t10 = false → ∃ za zc zb zu, v7 = .agg #[.int .i64 sn, .slice za ((tkL sn zs ⟨p, nb, le, mo, ne, ys⟩ sl).length) zc] ∧ AbIs W zb zu za ((tkL sn zs ⟨p, nb, le, mo, ne, ys⟩ sl).length) zc (tkL sn zs ⟨p, nb, le, mo, ne, ys⟩ sl) ∧ w20.heap.size ≤ zb ∧ zu ≤ W.heap.size ∧ (∀ P, t9 = true → v9 = .pointer (some ⟨P, 0, none⟩) → P < zb ∨ zu ≤ P)
  c7 : t7 = true → t5 = true
  e8 : t8 = true → v8 = .int .i64 (tkC sn zs ⟨p, nb, le, mo, ne, ys⟩ sl)
  c8 : t8 = true → t5 = true
  e9 : t9 = true → t10 = false → ∃ P, v9 = .pointer (some ⟨P, 0, none⟩) ∧ w20.heap.size ≤ P ∧ Blk W P [.int .i64 0, .slice none 0 0]
  f9 : t10 = true → ∃ P za zc zb zu, v9 = .pointer (some ⟨P, 0, none⟩) ∧ w20.heap.size ≤ P ∧ Blk W P [.int .i64 sn, .slice za ((tkL sn zs ⟨p, nb, le, mo, ne, ys⟩ sl).length) zc] ∧ AbIs W zb zu za ((tkL sn zs ⟨p, nb, le, mo, ne, ys⟩ sl).length) zc (tkL sn zs ⟨p, nb, le, mo, ne, ys⟩ sl) ∧ w20.heap.size ≤ zb ∧ zu ≤ W.heap.size ∧ (P < zb ∨ zu ≤ P)
  n10 : t10 = true → t9 = true
  e11 : t11 = true → v11 = .int .i64 (tkC sn zs ⟨p, nb, le, mo, ne, ys⟩ sl)
  i10_7 : t10 = true → t7 = true
  i7_6 : t7 = true → t6 = true
  i6_5 : t6 = true → t5 = true
theorem Take18Rimpl1.below {w20 : World} {sn : Int} {da1 : Option Addr} {dl1 : Nat} {dc1 : Nat} {zs : List Lc} {p : ByteArray} {nb : Int} {le : Int} {mo : Int} {ne : Int} {va1 : Option Addr} {vl1 : Nat} {vc1 : Nat} {ys : List Int} {sl : Int} {t0 t1 t2 t3 t4 t5 t6 t7 t8 t9 t10 t11 : Bool} {v0 v1 v2 v3 v4 v5 v6 v7 v8 v9 v11 : Value} {W W' : World} (K : Take18Rimpl1 w20 sn da1 dl1 dc1 zs p nb le mo ne va1 vl1 vc1 ys sl t0 t1 t2 t3 t4 t5 t6 t7 t8 t9 t10 t11 v0 v1 v2 v3 v4 v5 v6 v7 v8 v9 v11 W) (k : Below W.heap.size W W') : Take18Rimpl1 w20 sn da1 dl1 dc1 zs p nb le mo ne va1 vl1 vc1 ys sl t0 t1 t2 t3 t4 t5 t6 t7 t8 t9 t10 t11 v0 v1 v2 v3 v4 v5 v6 v7 v8 v9 v11 W' :=
  ⟨K.bel.trans (k.mono K.bel.size), K.e0, fun h1 h2 => by obtain ⟨g19, x1, x2⟩ := K.e1 h1 h2; exact ⟨g19, x1, x2.below k⟩, K.e2, fun h1 h2 => by obtain ⟨g20, x1, x2⟩ := K.e3 h1 h2; exact ⟨g20, x1, x2.below k⟩, K.e4, fun h1 h2 => by obtain ⟨za, zc, zb, zu, x1, x2, x3, x4, x5⟩ := K.e5 h1 h2; exact ⟨za, zc, zb, zu, x1, x2.below k, x3, Nat.le_trans x4 k.size, x5⟩, K.q5, fun h1 h2 => by obtain ⟨za, zc, zb, zu, x1, x2, x3, x4, x5⟩ := K.e6 h1 h2; exact ⟨za, zc, zb, zu, x1, x2.below k, x3, Nat.le_trans x4 k.size, x5⟩, K.q6, K.c6, fun h1 h2 => by obtain ⟨za, zc, zb, zu, x1, x2, x3, x4, x5⟩ := K.e7 h1 h2; exact ⟨za, zc, zb, zu, x1, x2.below k, x3, Nat.le_trans x4 k.size, x5⟩, K.c7, K.e8, K.c8, fun h1 h2 => by obtain ⟨P, x1, x2, x3⟩ := K.e9 h1 h2; exact ⟨P, x1, x2, x3.below k⟩, fun h => by obtain ⟨P, za, zc, zb, zu, x1, x2, x3, x4, x5, x6, x7⟩ := K.f9 h; exact ⟨P, za, zc, zb, zu, x1, x2, x3.below k, x4.below k, x5, Nat.le_trans x6 k.size, x7⟩, K.n10, K.e11, K.i10_7, K.i7_6, K.i6_5⟩
def Take18Rimpl1J (w20 : World) (sn : Int) (da1 : Option Addr) (dl1 : Nat) (dc1 : Nat) (zs : List Lc) (p : ByteArray) (nb : Int) (le : Int) (mo : Int) (ne : Int) (va1 : Option Addr) (vl1 : Nat) (vc1 : Nat) (ys : List Int) (sl : Int) (A0 : Act) (l : Nat → Bool) (a : Act) (V : World) : Prop := ∃ (v0 v1 v2 v3 v4 v5 v6 v7 v8 v9 v11 : Value), a = (((((((((((A0.put (some 99) v0).put (some 100) v1).put (some 101) v2).put (some 102) v3).put (some 103) v4).put (some 104) v5).put (some 98) v6).put (some 105) v7).put (some 106) v8).put (some 17) v9).put (some 18) v11) ∧ Take18Rimpl1 w20 sn da1 dl1 dc1 zs p nb le mo ne va1 vl1 vc1 ys sl (l 0) (l 1) (l 2) (l 3) (l 4) (l 5) (l 6) (l 7) (l 8) (l 9) (l 10) (l 11) v0 v1 v2 v3 v4 v5 v6 v7 v8 v9 v11 V
theorem Take18Rimpl1J.mk {w20 : World} {sn : Int} {da1 : Option Addr} {dl1 : Nat} {dc1 : Nat} {zs : List Lc} {p : ByteArray} {nb : Int} {le : Int} {mo : Int} {ne : Int} {va1 : Option Addr} {vl1 : Nat} {vc1 : Nat} {ys : List Int} {sl : Int} {A0 : Act} {l : Nat → Bool} {a : Act} {V : World} {v0 v1 v2 v3 v4 v5 v6 v7 v8 v9 v11 : Value} (K : Take18Rimpl1 w20 sn da1 dl1 dc1 zs p nb le mo ne va1 vl1 vc1 ys sl (l 0) (l 1) (l 2) (l 3) (l 4) (l 5) (l 6) (l 7) (l 8) (l 9) (l 10) (l 11) v0 v1 v2 v3 v4 v5 v6 v7 v8 v9 v11 V) (h : a = (((((((((((A0.put (some 99) v0).put (some 100) v1).put (some 101) v2).put (some 102) v3).put (some 103) v4).put (some 104) v5).put (some 98) v6).put (some 105) v7).put (some 106) v8).put (some 17) v9).put (some 18) v11)) : Take18Rimpl1J w20 sn da1 dl1 dc1 zs p nb le mo ne va1 vl1 vc1 ys sl A0 l a V := ⟨v0, v1, v2, v3, v4, v5, v6, v7, v8, v9, v11, h, K⟩

set_option maxRecDepth 20000 in
set_option maxHeartbeats 8000000 in
theorem lawTake18 (sn : Int) (da1 : Option Addr) (dl1 dc1 : Nat) (zs : List Lc) (p : ByteArray) (nb : Int) (le : Int) (mo : Int) (ne : Int) (va1 : Option Addr) (vl1 vc1 : Nat) (ys : List Int) (sl : Int) (w : World) (hrd : AbIn w da1 dl1 zs) (hrv : LdIn w va1 vl1 ys) (txv0 : p.size ≤ 9223372036854775807) (byv : ∀ i, i < vl1 → 0 ≤ elAt ys i ∧ elAt ys i ≤ 255) (erg : ErG w) :
    Calls Tryz.prog 4 #[.agg #[.int .i64 sn, .slice da1 dl1 dc1], .agg #[.string p, .int .i64 nb, .int .i64 le, .int .i64 mo, .int .i64 ne, .slice va1 vl1 vc1], .int .i64 sl] w fun x w' => x = .returned (.bool true) ∧ Below w.heap.size w w' := by
  have Rd := hide hrd
  have smd1 := hrd.r1.small
  have Ed1 := hide hrd.r1.len_eq
  clear hrd
  have Rv := hide hrv
  have smv1 := hrv.r1.small
  have Ev1 := hide hrv.r1.len_eq
  clear hrv
  have HGS := hide erg
  clear erg
  have hq : (tkC sn zs ⟨p, nb, le, mo, ne, ys⟩ sl != tkC sn zs ⟨p, nb, le, mo, ne, ys⟩ sl) = false := by simp
  have BYV := hide byv
  go_enter Tryz.func4, Tryz.ntmps4
  go_wp2_with fail
  obtain ⟨w1, hw1⟩ : ∃ W, W = ((w.alloc (Obj.cells #[.int .i64 sn, .slice da1 dl1 dc1] 47)).alloc (Obj.cells #[.string p, .int .i64 nb, .int .i64 le, .int .i64 mo, .int .i64 ne, .slice va1 vl1 vc1] 50)) := ⟨_, rfl⟩
  rw [← hw1]
  have K : Hid (Below w.heap.size w w1 ∧ Blk w1 w.heap.size [.int .i64 sn, .slice da1 dl1 dc1] ∧ Blk w1 (w.heap.size + 1) [.string p, .int .i64 nb, .int .i64 le, .int .i64 mo, .int .i64 ne, .slice va1 vl1 vc1]) := hide ⟨(by rw [hw1]; exact bel2 _ _), (by rw [hw1]; exact blkAt2_0), (by rw [hw1]; exact blkAt2_1)⟩
  have S0 : Hid (w.heap.size + 2 ≤ w1.heap.size) := hide (by rw [hw1]; simp; try omega)
  clear hw1
  have KEPT : Hid (∀ W u3, (Below w.heap.size w W ∧ Blk W w.heap.size [.int .i64 sn, .slice da1 dl1 dc1] ∧ Blk W (w.heap.size + 1) [.string p, .int .i64 nb, .int .i64 le, .int .i64 mo, .int .i64 ne, .slice va1 vl1 vc1]) → Below W.heap.size W u3 → (Below w.heap.size w u3 ∧ Blk u3 w.heap.size [.int .i64 sn, .slice da1 dl1 dc1] ∧ Blk u3 (w.heap.size + 1) [.string p, .int .i64 nb, .int .i64 le, .int .i64 mo, .int .i64 ne, .slice va1 vl1 vc1])) := hide (fun W u3 h b => ⟨h.1.trans (b.mono h.1.size), h.2.1.below b, h.2.2.below b⟩)
  refine (szAboard_any _ _ _ _ _ 1048576 _ ((unhide Rd).below (unhide K).1) (by omega) (by omega)).mono ?_
  rintro x w2 ⟨⟨r1, rfl, hl⟩, b⟩
  have S1 : Hid (w1.heap.size ≤ w2.heap.size) := hide b.size
  have K : Hid (Below w.heap.size w w2 ∧ Blk w2 w.heap.size [.int .i64 sn, .slice da1 dl1 dc1] ∧ Blk w2 (w.heap.size + 1) [.string p, .int .i64 nb, .int .i64 le, .int .i64 mo, .int .i64 ne, .slice va1 vl1 vc1]) := hide ((unhide KEPT) _ _ (unhide K) b)
  clear b
  rcases hl with hl | ⟨hl, hle, hd1⟩
  · go_wp2_with fail
    go_ret
    exact ⟨rfl, (unhide K).1⟩
  have nr1 : ¬ r1 < 0 := by omega
  have mPd0 : w2.cell? ⟨w.heap.size, 0, none⟩ = some (.int .i64 sn) := (unhide K).2.1.c 0 (by simp)
  have mPd1 : w2.cell? ⟨w.heap.size, 1, none⟩ = some (.slice da1 dl1 dc1) := (unhide K).2.1.c 1 (by simp)
  have mPv0 : w2.cell? ⟨w.heap.size + 1, 0, none⟩ = some (.string p) := (unhide K).2.2.c 0 (by simp)
  have mPv1 : w2.cell? ⟨w.heap.size + 1, 1, none⟩ = some (.int .i64 nb) := (unhide K).2.2.c 1 (by simp)
  have mPv2 : w2.cell? ⟨w.heap.size + 1, 2, none⟩ = some (.int .i64 le) := (unhide K).2.2.c 2 (by simp)
  have mPv3 : w2.cell? ⟨w.heap.size + 1, 3, none⟩ = some (.int .i64 mo) := (unhide K).2.2.c 3 (by simp)
  have mPv4 : w2.cell? ⟨w.heap.size + 1, 4, none⟩ = some (.int .i64 ne) := (unhide K).2.2.c 4 (by simp)
  have mPv5 : w2.cell? ⟨w.heap.size + 1, 5, none⟩ = some (.slice va1 vl1 vc1) := (unhide K).2.2.c 5 (by simp)
  go_wp2_with fail
  clear mPd0 mPd1 mPv0 mPv1 mPv2 mPv3 mPv4 mPv5
  refine (szLoad18_any _ _ _ _ _ _ _ _ r1 _ txv0 smv1 (by omega) (by omega)).mono ?_
  rintro x w3 ⟨⟨r2, rfl, hl⟩, b⟩
  have S2 : Hid (w2.heap.size ≤ w3.heap.size) := hide b.size
  have K : Hid (Below w.heap.size w w3 ∧ Blk w3 w.heap.size [.int .i64 sn, .slice da1 dl1 dc1] ∧ Blk w3 (w.heap.size + 1) [.string p, .int .i64 nb, .int .i64 le, .int .i64 mo, .int .i64 ne, .slice va1 vl1 vc1]) := hide ((unhide KEPT) _ _ (unhide K) b)
  clear b
  rcases hl with hl | ⟨hl, hle, hxv0, hv1⟩
  · go_wp2_with fail
    go_ret
    exact ⟨rfl, (unhide K).1⟩
  have nr2 : ¬ r2 < 0 := by omega
  have mPd0 : w3.cell? ⟨w.heap.size, 0, none⟩ = some (.int .i64 sn) := (unhide K).2.1.c 0 (by simp)
  have mPd1 : w3.cell? ⟨w.heap.size, 1, none⟩ = some (.slice da1 dl1 dc1) := (unhide K).2.1.c 1 (by simp)
  have mPv0 : w3.cell? ⟨w.heap.size + 1, 0, none⟩ = some (.string p) := (unhide K).2.2.c 0 (by simp)
  have mPv1 : w3.cell? ⟨w.heap.size + 1, 1, none⟩ = some (.int .i64 nb) := (unhide K).2.2.c 1 (by simp)
  have mPv2 : w3.cell? ⟨w.heap.size + 1, 2, none⟩ = some (.int .i64 le) := (unhide K).2.2.c 2 (by simp)
  have mPv3 : w3.cell? ⟨w.heap.size + 1, 3, none⟩ = some (.int .i64 mo) := (unhide K).2.2.c 3 (by simp)
  have mPv4 : w3.cell? ⟨w.heap.size + 1, 4, none⟩ = some (.int .i64 ne) := (unhide K).2.2.c 4 (by simp)
  have mPv5 : w3.cell? ⟨w.heap.size + 1, 5, none⟩ = some (.slice va1 vl1 vc1) := (unhide K).2.2.c 5 (by simp)
  go_wp2_with fail
  clear mPd0 mPd1 mPv0 mPv1 mPv2 mPv3 mPv4 mPv5
  have HPd := hide (unhide K).2.1
  have HId := hide ((unhide Rd).below (unhide K).1)
  have HPv := hide (unhide K).2.2
  have HIv := hide ((unhide Rv).below (unhide K).1)
  refine wp_region_flagsA (by kernel_rfl) (by kernel_rfl) (Take18Rspec0J w3 sn da1 dl1 dc1 zs p nb le mo ne va1 vl1 vc1 ys sl) ?_ ?_ ?_
  · exact Take18Rspec0J.mk (v0 := undef) (v1 := undef) (v2 := undef) (v3 := undef) (v4 := undef) (v5 := undef) (v6 := undef) (v7 := undef) (v8 := undef) (v9 := undef) (v11 := undef) ⟨(bel0d' 1 : Below w3.heap.size w3 (w3.drewN 1)), (fun h => by cases h), (fun h => by cases h), (fun h => by cases h), (fun h => by cases h), (fun h => by cases h), (fun h => by cases h), (fun h => by cases h), (fun h => by cases h), (fun h => by cases h), (fun h => by cases h), (fun h => by cases h), (fun h => by cases h), (fun h => by cases h), (fun h => by cases h), (fun h => by cases h), (fun h => by cases h), (fun h => by cases h), (fun h => by cases h), (fun h => by cases h), (fun h => by cases h), (fun h => by cases h)⟩ (by kernel_rfl)
  rotate_left 1
  · rintro l a V i o ho hl hd ⟨v0, v1, v2, v3, v4, v5, v6, v7, v8, v9, v11, rfl, K⟩
    have hi : i < 12 := (Array.getElem?_eq_some_iff.1 ho).1
    rcases (show i = 0 ∨ i = 1 ∨ i = 2 ∨ i = 3 ∨ i = 4 ∨ i = 5 ∨ i = 6 ∨ i = 7 ∨ i = 8 ∨ i = 9 ∨ i = 10 ∨ i = 11 from by omega) with rfl | rfl | rfl | rfl | rfl | rfl | rfl | rfl | rfl | rfl | rfl | rfl
    · simp at ho
      subst ho
      have cb := (unhide HPd).below K.bel
      have yy0 : V.cell? ⟨w.heap.size, 0, none⟩ = some (.int .i64 sn) := cb.c 0 (by simp)
      have yy1 : V.cell? ⟨w.heap.size, 1, none⟩ = some (.slice da1 dl1 dc1) := cb.c 1 (by simp)
      have HK : Hid (Take18Rspec0 w3 sn da1 dl1 dc1 zs p nb le mo ne va1 vl1 vc1 ys sl true (l 1) (l 2) (l 3) (l 4) (l 5) (l 6) (l 7) (l 8) (l 9) (l 10) (l 11) (.agg #[.int .i64 sn, .slice da1 dl1 dc1]) v1 v2 v3 v4 v5 v6 v7 v8 v9 v11 V) := hide ⟨(K.bel), (fun _ => rfl), (K.e1), (K.e2), (K.e3), (K.e4), (K.e5), (K.q5), (K.e6), (K.q6), (K.c6), (K.e7), (K.c7), (K.e8), (K.c8), (K.e9), (K.f9), (K.n10), (K.e11), (K.i10_7), (K.i7_6), (K.i6_5)⟩
      clear K hd hl cb
      go_wp2_with fail
      exact ⟨rfl, Take18Rspec0J.mk (unhide HK) (by kernel_rfl)⟩
    · simp at ho
      subst ho
      have d0 : l 0 = true := hd ⟨0, .data⟩ (by simp) rfl
      have x0 := K.e0 d0
      subst x0
      have HK0 := hide K
      clear K hd hl
      go_wp2_with (go_at_call 18; refine (toAboard_own _ _ _ _ _ _ ((unhide HId).below (unhide HK0).bel) hd1).mono ?_; rintro e V2 ⟨⟨g3, rfl, oc⟩, b2⟩; have K := (unhide HK0).below b2; have HK : Hid (Take18Rspec0 w3 sn da1 dl1 dc1 zs p nb le mo ne va1 vl1 vc1 ys sl (l 0) true (l 2) (l 3) (l 4) (l 5) (l 6) (l 7) (l 8) (l 9) (l 10) (l 11) (.agg #[.int .i64 sn, .slice da1 dl1 dc1]) (.agg #[.int .i64 sn, .slice (some ⟨g3, 0, none⟩) dl1 dl1]) v2 v3 v4 v5 v6 v7 v8 v9 v11 V2) := hide ⟨(K.bel), (K.e0), (fun _ _ => ⟨g3, rfl, oc.mono (unhide HK0).bel.size⟩), (K.e2), (K.e3), (K.e4), (K.e5), (K.q5), (K.e6), (K.q6), (K.c6), (K.e7), (K.c7), (K.e8), (K.c8), (K.e9), (K.f9), (K.n10), (K.e11), (K.i10_7), (K.i7_6), (K.i6_5)⟩; clear K b2)
      exact ⟨rfl, Take18Rspec0J.mk (unhide HK) (by kernel_rfl)⟩
    · simp at ho
      subst ho
      have cb := (unhide HPv).below K.bel
      have yy0 : V.cell? ⟨w.heap.size + 1, 0, none⟩ = some (.string p) := cb.c 0 (by simp)
      have yy1 : V.cell? ⟨w.heap.size + 1, 1, none⟩ = some (.int .i64 nb) := cb.c 1 (by simp)
      have yy2 : V.cell? ⟨w.heap.size + 1, 2, none⟩ = some (.int .i64 le) := cb.c 2 (by simp)
      have yy3 : V.cell? ⟨w.heap.size + 1, 3, none⟩ = some (.int .i64 mo) := cb.c 3 (by simp)
      have yy4 : V.cell? ⟨w.heap.size + 1, 4, none⟩ = some (.int .i64 ne) := cb.c 4 (by simp)
      have yy5 : V.cell? ⟨w.heap.size + 1, 5, none⟩ = some (.slice va1 vl1 vc1) := cb.c 5 (by simp)
      have HK : Hid (Take18Rspec0 w3 sn da1 dl1 dc1 zs p nb le mo ne va1 vl1 vc1 ys sl (l 0) (l 1) true (l 3) (l 4) (l 5) (l 6) (l 7) (l 8) (l 9) (l 10) (l 11) v0 v1 (.agg #[.string p, .int .i64 nb, .int .i64 le, .int .i64 mo, .int .i64 ne, .slice va1 vl1 vc1]) v3 v4 v5 v6 v7 v8 v9 v11 V) := hide ⟨(K.bel), (K.e0), (K.e1), (fun _ => rfl), (K.e3), (K.e4), (K.e5), (K.q5), (K.e6), (K.q6), (K.c6), (K.e7), (K.c7), (K.e8), (K.c8), (K.e9), (K.f9), (K.n10), (K.e11), (K.i10_7), (K.i7_6), (K.i6_5)⟩
      clear K hd hl cb
      go_wp2_with fail
      exact ⟨rfl, Take18Rspec0J.mk (unhide HK) (by kernel_rfl)⟩
    · simp at ho
      subst ho
      have d2 : l 2 = true := hd ⟨2, .data⟩ (by simp) rfl
      have x2 := K.e2 d2
      subst x2
      have HK0 := hide K
      clear K hd hl
      go_wp2_with (go_at_call 19; refine (toLoad18_own _ _ _ _ _ _ _ _ _ _ ((unhide HIv).below (unhide HK0).bel) hv1).mono ?_; rintro e V2 ⟨⟨g4, rfl, oc⟩, b2⟩; have K := (unhide HK0).below b2; have HK : Hid (Take18Rspec0 w3 sn da1 dl1 dc1 zs p nb le mo ne va1 vl1 vc1 ys sl (l 0) (l 1) (l 2) true (l 4) (l 5) (l 6) (l 7) (l 8) (l 9) (l 10) (l 11) v0 v1 (.agg #[.string p, .int .i64 nb, .int .i64 le, .int .i64 mo, .int .i64 ne, .slice va1 vl1 vc1]) (.agg #[.string p, .int .i64 nb, .int .i64 le, .int .i64 mo, .int .i64 ne, .slice (some ⟨g4, 0, none⟩) vl1 vl1]) v4 v5 v6 v7 v8 v9 v11 V2) := hide ⟨(K.bel), (K.e0), (K.e1), (K.e2), (fun _ _ => ⟨g4, rfl, oc.mono (unhide HK0).bel.size⟩), (K.e4), (K.e5), (K.q5), (K.e6), (K.q6), (K.c6), (K.e7), (K.c7), (K.e8), (K.c8), (K.e9), (K.f9), (K.n10), (K.e11), (K.i10_7), (K.i7_6), (K.i6_5)⟩; clear K b2)
      exact ⟨rfl, Take18Rspec0J.mk (unhide HK) (by kernel_rfl)⟩
    · simp at ho
      subst ho
      have HK : Hid (Take18Rspec0 w3 sn da1 dl1 dc1 zs p nb le mo ne va1 vl1 vc1 ys sl (l 0) (l 1) (l 2) (l 3) true (l 5) (l 6) (l 7) (l 8) (l 9) (l 10) (l 11) v0 v1 v2 v3 (.int .i64 sl) v5 v6 v7 v8 v9 v11 V) := hide ⟨(K.bel), (K.e0), (K.e1), (K.e2), (K.e3), (fun _ => rfl), (K.e5), (K.q5), (K.e6), (K.q6), (K.c6), (K.e7), (K.c7), (K.e8), (K.c8), (K.e9), (K.f9), (K.n10), (K.e11), (K.i10_7), (K.i7_6), (K.i6_5)⟩
      clear K hd hl
      go_wp2_with fail
      exact ⟨rfl, Take18Rspec0J.mk (unhide HK) (by kernel_rfl)⟩
    · simp at ho
      subst ho
      have d1 : l 1 = true := hd ⟨1, .data⟩ (by simp) rfl
      obtain ⟨g3, x1, y1⟩ := K.e1 d1 hl
      have Y1 := hide y1
      subst x1
      clear y1
      have d3 : l 3 = true := hd ⟨3, .data⟩ (by simp) rfl
      obtain ⟨g4, x3, y3⟩ := K.e3 d3 hl
      have Y3 := hide y3
      subst x3
      clear y3
      have d4 : l 4 = true := hd ⟨4, .data⟩ (by simp) rfl
      have x4 := K.e4 d4
      subst x4
      have zst : l 10 = false := by cases c : l 10; rfl; have := K.i6_5 (K.i7_6 (K.i10_7 c)); rw [hl] at this; cases this
      have HZS := hide zst
      have HK0 := hide K
      clear K hd hl zst
      go_wp2_with (go_at_call 17; refine (specTakeL_any _ _ _ _ _ _ _ _ _ _ _ _ _ _ _ _ ((unhide Y1).read) ((unhide Y3).read) (Nat.le_refl _) hd1 hv1 txv0 (unhide BYV)).mono ?_; rintro e V2 ⟨za, zc, rfl, oc, b2⟩; have K := (unhide HK0).below b2; have HK : Hid (Take18Rspec0 w3 sn da1 dl1 dc1 zs p nb le mo ne va1 vl1 vc1 ys sl (l 0) (l 1) (l 2) (l 3) (l 4) true (l 6) (l 7) (l 8) (l 9) (l 10) (l 11) v0 (.agg #[.int .i64 sn, .slice (some ⟨g3, 0, none⟩) dl1 dl1]) v2 (.agg #[.string p, .int .i64 nb, .int .i64 le, .int .i64 mo, .int .i64 ne, .slice (some ⟨g4, 0, none⟩) vl1 vl1]) (.int .i64 sl) (.tuple #[.agg #[.int .i64 sn, .slice za ((tkL sn zs ⟨p, nb, le, mo, ne, ys⟩ sl).length) zc], .int .i64 (tkC sn zs ⟨p, nb, le, mo, ne, ys⟩ sl)]) v6 v7 v8 v9 v11 V2) := hide ⟨(K.bel), (K.e0), (fun _ h => by cases h), (K.e2), (fun _ h => by cases h), (K.e4), (fun _ _ => ⟨za, zc, V.heap.size, V2.heap.size, rfl, oc.is, (unhide HK0).bel.size, Nat.le_refl _, fun P h1 h2 => .inl (by obtain ⟨P2, x1, x2, x3⟩ := (unhide HK0).e9 h1 (unhide HZS); have e := x1.symm.trans h2; simp only [Value.pointer.injEq, Option.some.injEq, Addr.mk.injEq, and_true] at e; have := x3.lt; omega)⟩), (fun _ => ⟨_, rfl⟩), (K.e6), (K.q6), (fun _ => rfl), (K.e7), (fun _ => rfl), (K.e8), (fun _ => rfl), (K.e9), (K.f9), (K.n10), (K.e11), (K.i10_7), (K.i7_6), (fun _ => rfl)⟩; clear K b2 oc)
      exact ⟨rfl, Take18Rspec0J.mk (unhide HK) (by kernel_rfl)⟩
    · simp at ho
      subst ho
      have d5 : l 5 = true := hd ⟨5, .data⟩ (by simp) rfl
      have zst : l 10 = false := by cases c : l 10; rfl; have := K.i7_6 (K.i10_7 c); rw [hl] at this; cases this
      obtain ⟨za, zc, zb, zu, x5, y1, y2, y3, y4⟩ := K.e5 d5 zst
      subst x5
      have HK : Hid (Take18Rspec0 w3 sn da1 dl1 dc1 zs p nb le mo ne va1 vl1 vc1 ys sl (l 0) (l 1) (l 2) (l 3) (l 4) (l 5) true (l 7) (l 8) (l 9) (l 10) (l 11) v0 v1 v2 v3 v4 (.tuple #[.agg #[.int .i64 sn, .slice za ((tkL sn zs ⟨p, nb, le, mo, ne, ys⟩ sl).length) zc], .int .i64 (tkC sn zs ⟨p, nb, le, mo, ne, ys⟩ sl)]) (.tuple #[.agg #[.int .i64 sn, .slice za ((tkL sn zs ⟨p, nb, le, mo, ne, ys⟩ sl).length) zc], .int .i64 (tkC sn zs ⟨p, nb, le, mo, ne, ys⟩ sl)]) v7 v8 v9 v11 V) := hide ⟨(K.bel), (K.e0), (K.e1), (K.e2), (K.e3), (K.e4), (K.e5), (K.q5), (fun _ _ => ⟨za, zc, zb, zu, rfl, y1, y2, y3, y4⟩), (fun _ => ⟨_, rfl⟩), (fun _ => d5), (K.e7), (K.c7), (K.e8), (K.c8), (K.e9), (K.f9), (K.n10), (K.e11), (K.i10_7), (fun _ => rfl), (fun _ => d5)⟩
      clear K hd hl zst y1 y2 y3 y4
      go_wp2_with fail
      exact ⟨rfl, Take18Rspec0J.mk (unhide HK) (by kernel_rfl)⟩
    · simp at ho
      subst ho
      have d6 : l 6 = true := hd ⟨6, .data⟩ (by simp) rfl
      have zst : l 10 = false := by cases c : l 10; rfl; have := K.i10_7 c; rw [hl] at this; cases this
      obtain ⟨za, zc, zb, zu, x6, y1, y2, y3, y4⟩ := K.e6 d6 zst
      subst x6
      have HK : Hid (Take18Rspec0 w3 sn da1 dl1 dc1 zs p nb le mo ne va1 vl1 vc1 ys sl (l 0) (l 1) (l 2) (l 3) (l 4) (l 5) (l 6) true (l 8) (l 9) (l 10) (l 11) v0 v1 v2 v3 v4 v5 (.tuple #[.agg #[.int .i64 sn, .slice za ((tkL sn zs ⟨p, nb, le, mo, ne, ys⟩ sl).length) zc], .int .i64 (tkC sn zs ⟨p, nb, le, mo, ne, ys⟩ sl)]) (.agg #[.int .i64 sn, .slice za ((tkL sn zs ⟨p, nb, le, mo, ne, ys⟩ sl).length) zc]) v8 v9 v11 V) := hide ⟨(K.bel), (K.e0), (K.e1), (K.e2), (K.e3), (K.e4), (K.e5), (K.q5), (K.e6), (K.q6), (K.c6), (fun _ _ => ⟨za, zc, zb, zu, rfl, y1, y2, y3, y4⟩), (fun _ => K.c6 d6), (K.e8), (K.c8), (K.e9), (K.f9), (K.n10), (K.e11), (fun _ => rfl), (fun _ => d6), (K.i6_5)⟩
      clear K hd hl zst y1 y2 y3 y4
      go_wp2_with fail
      exact ⟨rfl, Take18Rspec0J.mk (unhide HK) (by kernel_rfl)⟩
    · simp at ho
      subst ho
      have d6 : l 6 = true := hd ⟨6, .data⟩ (by simp) rfl
      obtain ⟨za, x6⟩ := K.q6 d6
      subst x6
      have HK : Hid (Take18Rspec0 w3 sn da1 dl1 dc1 zs p nb le mo ne va1 vl1 vc1 ys sl (l 0) (l 1) (l 2) (l 3) (l 4) (l 5) (l 6) (l 7) true (l 9) (l 10) (l 11) v0 v1 v2 v3 v4 v5 (.tuple #[za, .int .i64 (tkC sn zs ⟨p, nb, le, mo, ne, ys⟩ sl)]) v7 (.int .i64 (tkC sn zs ⟨p, nb, le, mo, ne, ys⟩ sl)) v9 v11 V) := hide ⟨(K.bel), (K.e0), (K.e1), (K.e2), (K.e3), (K.e4), (K.e5), (K.q5), (K.e6), (K.q6), (K.c6), (K.e7), (K.c7), (fun _ => rfl), (fun _ => K.c6 d6), (K.e9), (K.f9), (K.n10), (K.e11), (K.i10_7), (K.i7_6), (K.i6_5)⟩
      clear K hd hl
      go_wp2_with fail
      exact ⟨rfl, Take18Rspec0J.mk (unhide HK) (by kernel_rfl)⟩
    · simp at ho
      subst ho
      have nz : l 10 = false := by cases c : l 10; rfl; have := K.n10 c; rw [hl] at this; cases this
      have K2 := K.below (bel1 (Obj.cells #[.int .i64 0, .slice none 0 0] 26))
      have HK : Hid (Take18Rspec0 w3 sn da1 dl1 dc1 zs p nb le mo ne va1 vl1 vc1 ys sl (l 0) (l 1) (l 2) (l 3) (l 4) (l 5) (l 6) (l 7) (l 8) true (l 10) (l 11) v0 v1 v2 v3 v4 v5 v6 v7 v8 (.pointer (some ⟨V.heap.size, 0, none⟩)) v11 (V.alloc (Obj.cells #[.int .i64 0, .slice none 0 0] 26))) := hide ⟨(K2.bel), (K2.e0), (K2.e1), (K2.e2), (K2.e3), (K2.e4), (fun h1 h2 => by obtain ⟨za, zc, zb, zu, x1, x2, x3, x4, x5⟩ := K.e5 h1 h2; exact ⟨za, zc, zb, zu, x1, x2.below (bel1 _), x3, Nat.le_trans x4 (bel1 (Obj.cells #[.int .i64 0, .slice none 0 0] 26)).size, fun P _ hp => .inr (by simp only [Value.pointer.injEq, Option.some.injEq, Addr.mk.injEq, and_true] at hp; omega)⟩), (K2.q5), (fun h1 h2 => by obtain ⟨za, zc, zb, zu, x1, x2, x3, x4, x5⟩ := K.e6 h1 h2; exact ⟨za, zc, zb, zu, x1, x2.below (bel1 _), x3, Nat.le_trans x4 (bel1 (Obj.cells #[.int .i64 0, .slice none 0 0] 26)).size, fun P _ hp => .inr (by simp only [Value.pointer.injEq, Option.some.injEq, Addr.mk.injEq, and_true] at hp; omega)⟩), (K2.q6), (K2.c6), (fun h1 h2 => by obtain ⟨za, zc, zb, zu, x1, x2, x3, x4, x5⟩ := K.e7 h1 h2; exact ⟨za, zc, zb, zu, x1, x2.below (bel1 _), x3, Nat.le_trans x4 (bel1 (Obj.cells #[.int .i64 0, .slice none 0 0] 26)).size, fun P _ hp => .inr (by simp only [Value.pointer.injEq, Option.some.injEq, Addr.mk.injEq, and_true] at hp; omega)⟩), (K2.c7), (K2.e8), (K2.c8), (fun _ _ => ⟨_, rfl, K.bel.size, Blk.new _ _⟩), (fun h => by cases nz.symm.trans h), (fun _ => rfl), (K2.e11), (K2.i10_7), (K2.i7_6), (K2.i6_5)⟩
      clear K K2 hd hl nz
      go_wp2_with fail
      exact ⟨rfl, Take18Rspec0J.mk (unhide HK) (by kernel_rfl)⟩
    · simp at ho
      subst ho
      have d9 : l 9 = true := hd ⟨9, .data⟩ (by simp) rfl
      have d7 : l 7 = true := hd ⟨7, .data⟩ (by simp) rfl
      obtain ⟨P, x1, x2, x3⟩ := K.e9 d9 hl
      obtain ⟨za, zc, zb, zu, w1, y1, y2, y3, y4⟩ := K.e7 d7 hl
      have yy0 : V.cell? ⟨P, 0, none⟩ = some (.int .i64 0) := x3.c 0 (by simp)
      have ff0 := x3.f 0 (by simp)
      have yy1 : V.cell? ⟨P, 1, none⟩ = some (.slice none 0 0) := x3.c 1 (by simp)
      have ff1 := x3.f 1 (by simp)
      have hP := y4 P d9 x1
      have dcall : l 5 = true := K.c7 d7
      subst x1
      subst w1
      have HK : Hid (Take18Rspec0 w3 sn da1 dl1 dc1 zs p nb le mo ne va1 vl1 vc1 ys sl (l 0) (l 1) (l 2) (l 3) (l 4) (l 5) (l 6) (l 7) (l 8) (l 9) true (l 11) v0 v1 v2 v3 v4 v5 v6 (.agg #[.int .i64 sn, .slice za ((tkL sn zs ⟨p, nb, le, mo, ne, ys⟩ sl).length) zc]) v8 (.pointer (some ⟨P, 0, none⟩)) v11 ((V.setCell ⟨P, 0, none⟩ (.int .i64 sn)).setCell ⟨P, 1, none⟩ (.slice za ((tkL sn zs ⟨p, nb, le, mo, ne, ys⟩ sl).length) zc))) := hide ⟨(((K.bel.setCell x2 _).setCell x2 _)), (K.e0), (fun _ h => by have := dcall.symm.trans h; cases this), (K.e2), (fun _ h => by have := dcall.symm.trans h; cases this), (K.e4), (fun _ h => by cases h), (K.q5), (fun _ h => by cases h), (K.q6), (K.c6), (fun _ h => by cases h), (K.c7), (K.e8), (K.c8), (fun _ h => by cases h), (fun _ => ⟨P, za, zc, zb, zu, rfl, x2, ((x3.set 0 (by simp) _).set 1 (by simp) _), ((y1.only (lo := P) (hi := P + 1) (Only.of_row (grown_set (grown_refl _ (some P)) 0 _) (fun g hg => by have := Option.some.inj hg; omega)) (by omega)).only (lo := P) (hi := P + 1) (Only.of_row (grown_set (grown_refl _ (some P)) 1 _) (fun g hg => by have := Option.some.inj hg; omega)) (by omega)), y2, by simpa using y3, hP⟩), (fun _ => d9), (K.e11), (fun _ => d7), (K.i7_6), (K.i6_5)⟩
      clear K hd hl x3 y1 y2 y3 y4 hP
      go_wp2_with fail
      exact ⟨rfl, Take18Rspec0J.mk (unhide HK) (by kernel_rfl)⟩
    · simp at ho
      subst ho
      have d8 : l 8 = true := hd ⟨8, .data⟩ (by simp) rfl
      have x8 := K.e8 d8
      subst x8
      have HK : Hid (Take18Rspec0 w3 sn da1 dl1 dc1 zs p nb le mo ne va1 vl1 vc1 ys sl (l 0) (l 1) (l 2) (l 3) (l 4) (l 5) (l 6) (l 7) (l 8) (l 9) (l 10) true v0 v1 v2 v3 v4 v5 v6 v7 (.int .i64 (tkC sn zs ⟨p, nb, le, mo, ne, ys⟩ sl)) v9 (.int .i64 (tkC sn zs ⟨p, nb, le, mo, ne, ys⟩ sl)) V) := hide ⟨(K.bel), (K.e0), (K.e1), (K.e2), (K.e3), (K.e4), (K.e5), (K.q5), (K.e6), (K.q6), (K.c6), (K.e7), (K.c7), (K.e8), (K.c8), (K.e9), (K.f9), (K.n10), (fun _ => rfl), (K.i10_7), (K.i7_6), (K.i6_5)⟩
      clear K hd hl
      go_wp2_with fail
      exact ⟨rfl, Take18Rspec0J.mk (unhide HK) (by kernel_rfl)⟩
  rintro l a w4 hall ⟨v0, v1, v2, v3, v4, v5, v6, v7, v8, v9, v11, rfl, K⟩
  have b := K.bel
  obtain ⟨X5, a6, c7, lo8, hi9, x1, x2, x3, x4, x5, x6, x7⟩ := K.f9 (hall 10 (by decide))
  subst x1
  have hSX5 := x3.lt
  have x11 := K.e11 (hall 11 (by decide))
  subst x11
  have JX5 := hide x3
  have IX5 := hide x2
  have Ja6 := hide x4
  have Ia6 := hide x5
  have Ua6 := hide x6
  clear x3 x2 x4 x5 x6 x7
  clear K hall
  have S3 : Hid (w3.heap.size ≤ w4.heap.size) := hide b.size
  have K : Hid (Below w.heap.size w w4 ∧ Blk w4 w.heap.size [.int .i64 sn, .slice da1 dl1 dc1] ∧ Blk w4 (w.heap.size + 1) [.string p, .int .i64 nb, .int .i64 le, .int .i64 mo, .int .i64 ne, .slice va1 vl1 vc1]) := hide ((unhide KEPT) _ _ (unhide K) b)
  clear b
  have S4 : Hid (w3.heap.size ≤ X5) := hide (unhide IX5)
  have S5 : Hid (X5 + 1 ≤ w4.heap.size) := hide (by have := hSX5; omega)
  have S6 : Hid (w3.heap.size ≤ lo8 ∧ hi9 ≤ w4.heap.size) := hide ⟨unhide Ia6, unhide Ua6⟩
  have K : Hid (Below w.heap.size w w4 ∧ Blk w4 w.heap.size [.int .i64 sn, .slice da1 dl1 dc1] ∧ Blk w4 (w.heap.size + 1) [.string p, .int .i64 nb, .int .i64 le, .int .i64 mo, .int .i64 ne, .slice va1 vl1 vc1] ∧ AbIs w4 lo8 hi9 a6 ((tkL sn zs ⟨p, nb, le, mo, ne, ys⟩ sl).length) c7 (tkL sn zs ⟨p, nb, le, mo, ne, ys⟩ sl)) := hide ⟨(unhide K).1, (unhide K).2.1, (unhide K).2.2, (unhide Ja6)⟩
  have K : Hid (Below w.heap.size w w4 ∧ Blk w4 w.heap.size [.int .i64 sn, .slice da1 dl1 dc1] ∧ Blk w4 (w.heap.size + 1) [.string p, .int .i64 nb, .int .i64 le, .int .i64 mo, .int .i64 ne, .slice va1 vl1 vc1] ∧ AbIs w4 lo8 hi9 a6 ((tkL sn zs ⟨p, nb, le, mo, ne, ys⟩ sl).length) c7 (tkL sn zs ⟨p, nb, le, mo, ne, ys⟩ sl) ∧ Blk w4 X5 [.int .i64 sn, .slice a6 ((tkL sn zs ⟨p, nb, le, mo, ne, ys⟩ sl).length) c7]) := hide ⟨(unhide K).1, (unhide K).2.1, (unhide K).2.2.1, (unhide K).2.2.2, (unhide JX5)⟩
  clear KEPT JX5 Ja6 hSX5
  have KEPT : Hid (∀ W u3, (Below w.heap.size w W ∧ Blk W w.heap.size [.int .i64 sn, .slice da1 dl1 dc1] ∧ Blk W (w.heap.size + 1) [.string p, .int .i64 nb, .int .i64 le, .int .i64 mo, .int .i64 ne, .slice va1 vl1 vc1] ∧ AbIs W lo8 hi9 a6 ((tkL sn zs ⟨p, nb, le, mo, ne, ys⟩ sl).length) c7 (tkL sn zs ⟨p, nb, le, mo, ne, ys⟩ sl) ∧ Blk W X5 [.int .i64 sn, .slice a6 ((tkL sn zs ⟨p, nb, le, mo, ne, ys⟩ sl).length) c7]) → Below W.heap.size W u3 → (Below w.heap.size w u3 ∧ Blk u3 w.heap.size [.int .i64 sn, .slice da1 dl1 dc1] ∧ Blk u3 (w.heap.size + 1) [.string p, .int .i64 nb, .int .i64 le, .int .i64 mo, .int .i64 ne, .slice va1 vl1 vc1] ∧ AbIs u3 lo8 hi9 a6 ((tkL sn zs ⟨p, nb, le, mo, ne, ys⟩ sl).length) c7 (tkL sn zs ⟨p, nb, le, mo, ne, ys⟩ sl) ∧ Blk u3 X5 [.int .i64 sn, .slice a6 ((tkL sn zs ⟨p, nb, le, mo, ne, ys⟩ sl).length) c7])) := hide (fun W u3 h b => ⟨h.1.trans (b.mono h.1.size), h.2.1.below b, h.2.2.1.below b, h.2.2.2.1.below b, h.2.2.2.2.below b⟩)
  have mPd0 : w4.cell? ⟨w.heap.size, 0, none⟩ = some (.int .i64 sn) := (unhide K).2.1.c 0 (by simp)
  have mPd1 : w4.cell? ⟨w.heap.size, 1, none⟩ = some (.slice da1 dl1 dc1) := (unhide K).2.1.c 1 (by simp)
  have mPv0 : w4.cell? ⟨w.heap.size + 1, 0, none⟩ = some (.string p) := (unhide K).2.2.1.c 0 (by simp)
  have mPv1 : w4.cell? ⟨w.heap.size + 1, 1, none⟩ = some (.int .i64 nb) := (unhide K).2.2.1.c 1 (by simp)
  have mPv2 : w4.cell? ⟨w.heap.size + 1, 2, none⟩ = some (.int .i64 le) := (unhide K).2.2.1.c 2 (by simp)
  have mPv3 : w4.cell? ⟨w.heap.size + 1, 3, none⟩ = some (.int .i64 mo) := (unhide K).2.2.1.c 3 (by simp)
  have mPv4 : w4.cell? ⟨w.heap.size + 1, 4, none⟩ = some (.int .i64 ne) := (unhide K).2.2.1.c 4 (by simp)
  have mPv5 : w4.cell? ⟨w.heap.size + 1, 5, none⟩ = some (.slice va1 vl1 vc1) := (unhide K).2.2.1.c 5 (by simp)
  have mQW00 : w4.cell? ⟨X5, 0, none⟩ = some (.int .i64 sn) := (unhide K).2.2.2.2.c 0 (by simp)
  have mQW01 : w4.cell? ⟨X5, 1, none⟩ = some (.slice a6 ((tkL sn zs ⟨p, nb, le, mo, ne, ys⟩ sl).length) c7) := (unhide K).2.2.2.2.c 1 (by simp)
  go_wp2_with fail
  clear mPd0 mPd1 mPv0 mPv1 mPv2 mPv3 mPv4 mPv5 mQW00 mQW01
  refine (toAboard_own _ _ _ _ _ _ ((unhide Rd).below (unhide K).1) hd1).mono ?_
  rintro x w5 ⟨⟨g10, rfl, oc⟩, b⟩
  have S7 : Hid (w4.heap.size ≤ w5.heap.size) := hide b.size
  have K : Hid (Below w.heap.size w w5 ∧ Blk w5 w.heap.size [.int .i64 sn, .slice da1 dl1 dc1] ∧ Blk w5 (w.heap.size + 1) [.string p, .int .i64 nb, .int .i64 le, .int .i64 mo, .int .i64 ne, .slice va1 vl1 vc1] ∧ AbIs w5 lo8 hi9 a6 ((tkL sn zs ⟨p, nb, le, mo, ne, ys⟩ sl).length) c7 (tkL sn zs ⟨p, nb, le, mo, ne, ys⟩ sl) ∧ Blk w5 X5 [.int .i64 sn, .slice a6 ((tkL sn zs ⟨p, nb, le, mo, ne, ys⟩ sl).length) c7]) := hide ((unhide KEPT) _ _ (unhide K) b)
  have K : Hid (Below w.heap.size w w5 ∧ Blk w5 w.heap.size [.int .i64 sn, .slice da1 dl1 dc1] ∧ Blk w5 (w.heap.size + 1) [.string p, .int .i64 nb, .int .i64 le, .int .i64 mo, .int .i64 ne, .slice va1 vl1 vc1] ∧ AbIs w5 lo8 hi9 a6 ((tkL sn zs ⟨p, nb, le, mo, ne, ys⟩ sl).length) c7 (tkL sn zs ⟨p, nb, le, mo, ne, ys⟩ sl) ∧ Blk w5 X5 [.int .i64 sn, .slice a6 ((tkL sn zs ⟨p, nb, le, mo, ne, ys⟩ sl).length) c7] ∧ AbIs w5 w4.heap.size w5.heap.size (some ⟨g10, 0, none⟩) dl1 dl1 zs) := hide ⟨(unhide K).1, (unhide K).2.1, (unhide K).2.2.1, (unhide K).2.2.2.1, (unhide K).2.2.2.2, oc.is⟩
  clear KEPT oc b
  have KEPT : Hid (∀ W u3, (Below w.heap.size w W ∧ Blk W w.heap.size [.int .i64 sn, .slice da1 dl1 dc1] ∧ Blk W (w.heap.size + 1) [.string p, .int .i64 nb, .int .i64 le, .int .i64 mo, .int .i64 ne, .slice va1 vl1 vc1] ∧ AbIs W lo8 hi9 a6 ((tkL sn zs ⟨p, nb, le, mo, ne, ys⟩ sl).length) c7 (tkL sn zs ⟨p, nb, le, mo, ne, ys⟩ sl) ∧ Blk W X5 [.int .i64 sn, .slice a6 ((tkL sn zs ⟨p, nb, le, mo, ne, ys⟩ sl).length) c7] ∧ AbIs W w4.heap.size w5.heap.size (some ⟨g10, 0, none⟩) dl1 dl1 zs) → Below W.heap.size W u3 → (Below w.heap.size w u3 ∧ Blk u3 w.heap.size [.int .i64 sn, .slice da1 dl1 dc1] ∧ Blk u3 (w.heap.size + 1) [.string p, .int .i64 nb, .int .i64 le, .int .i64 mo, .int .i64 ne, .slice va1 vl1 vc1] ∧ AbIs u3 lo8 hi9 a6 ((tkL sn zs ⟨p, nb, le, mo, ne, ys⟩ sl).length) c7 (tkL sn zs ⟨p, nb, le, mo, ne, ys⟩ sl) ∧ Blk u3 X5 [.int .i64 sn, .slice a6 ((tkL sn zs ⟨p, nb, le, mo, ne, ys⟩ sl).length) c7] ∧ AbIs u3 w4.heap.size w5.heap.size (some ⟨g10, 0, none⟩) dl1 dl1 zs)) := hide (fun W u3 h b => ⟨h.1.trans (b.mono h.1.size), h.2.1.below b, h.2.2.1.below b, h.2.2.2.1.below b, h.2.2.2.2.1.below b, h.2.2.2.2.2.below b⟩)
  obtain ⟨w6, hw6⟩ : ∃ V, V = w5.alloc (Obj.cells #[.int .i64 sn, .slice (some ⟨g10, 0, none⟩) dl1 dl1] 26) := ⟨_, rfl⟩
  have b : Below w5.heap.size w5 w6 := by rw [hw6]; exact bel1 _
  have kx : Blk w6 w5.heap.size [.int .i64 sn, .slice (some ⟨g10, 0, none⟩) dl1 dl1] := by rw [hw6]; exact Blk.new _ _
  have S8 : Hid (w5.heap.size + 1 ≤ w6.heap.size) := hide (by rw [hw6]; simp)
  have S9 : Hid (w5.heap.size ≤ w6.heap.size) := hide b.size
  have K : Hid (Below w.heap.size w w6 ∧ Blk w6 w.heap.size [.int .i64 sn, .slice da1 dl1 dc1] ∧ Blk w6 (w.heap.size + 1) [.string p, .int .i64 nb, .int .i64 le, .int .i64 mo, .int .i64 ne, .slice va1 vl1 vc1] ∧ AbIs w6 lo8 hi9 a6 ((tkL sn zs ⟨p, nb, le, mo, ne, ys⟩ sl).length) c7 (tkL sn zs ⟨p, nb, le, mo, ne, ys⟩ sl) ∧ Blk w6 X5 [.int .i64 sn, .slice a6 ((tkL sn zs ⟨p, nb, le, mo, ne, ys⟩ sl).length) c7] ∧ AbIs w6 w4.heap.size w5.heap.size (some ⟨g10, 0, none⟩) dl1 dl1 zs) := hide ((unhide KEPT) _ _ (unhide K) b)
  have mPd0 : w6.cell? ⟨w.heap.size, 0, none⟩ = some (.int .i64 sn) := (unhide K).2.1.c 0 (by simp)
  have mPd1 : w6.cell? ⟨w.heap.size, 1, none⟩ = some (.slice da1 dl1 dc1) := (unhide K).2.1.c 1 (by simp)
  have mPv0 : w6.cell? ⟨w.heap.size + 1, 0, none⟩ = some (.string p) := (unhide K).2.2.1.c 0 (by simp)
  have mPv1 : w6.cell? ⟨w.heap.size + 1, 1, none⟩ = some (.int .i64 nb) := (unhide K).2.2.1.c 1 (by simp)
  have mPv2 : w6.cell? ⟨w.heap.size + 1, 2, none⟩ = some (.int .i64 le) := (unhide K).2.2.1.c 2 (by simp)
  have mPv3 : w6.cell? ⟨w.heap.size + 1, 3, none⟩ = some (.int .i64 mo) := (unhide K).2.2.1.c 3 (by simp)
  have mPv4 : w6.cell? ⟨w.heap.size + 1, 4, none⟩ = some (.int .i64 ne) := (unhide K).2.2.1.c 4 (by simp)
  have mPv5 : w6.cell? ⟨w.heap.size + 1, 5, none⟩ = some (.slice va1 vl1 vc1) := (unhide K).2.2.1.c 5 (by simp)
  have mQW00 : w6.cell? ⟨X5, 0, none⟩ = some (.int .i64 sn) := (unhide K).2.2.2.2.1.c 0 (by simp)
  have mQW01 : w6.cell? ⟨X5, 1, none⟩ = some (.slice a6 ((tkL sn zs ⟨p, nb, le, mo, ne, ys⟩ sl).length) c7) := (unhide K).2.2.2.2.1.c 1 (by simp)
  rw [hw6] at mPd0 mPd1 mPv0 mPv1 mPv2 mPv3 mPv4 mPv5 mQW00 mQW01
  obtain ⟨X11, hX11⟩ : ∃ X, w5.heap.size = X := ⟨_, rfl⟩
  rw [hX11] at kx
  have S10 : Hid (w5.heap.size = X11) := hide hX11
  have K : Hid (Below w.heap.size w w6 ∧ Blk w6 w.heap.size [.int .i64 sn, .slice da1 dl1 dc1] ∧ Blk w6 (w.heap.size + 1) [.string p, .int .i64 nb, .int .i64 le, .int .i64 mo, .int .i64 ne, .slice va1 vl1 vc1] ∧ AbIs w6 lo8 hi9 a6 ((tkL sn zs ⟨p, nb, le, mo, ne, ys⟩ sl).length) c7 (tkL sn zs ⟨p, nb, le, mo, ne, ys⟩ sl) ∧ Blk w6 X5 [.int .i64 sn, .slice a6 ((tkL sn zs ⟨p, nb, le, mo, ne, ys⟩ sl).length) c7] ∧ AbIs w6 w4.heap.size w5.heap.size (some ⟨g10, 0, none⟩) dl1 dl1 zs ∧ Blk w6 X11 [.int .i64 sn, .slice (some ⟨g10, 0, none⟩) dl1 dl1]) := hide ⟨(unhide K).1, (unhide K).2.1, (unhide K).2.2.1, (unhide K).2.2.2.1, (unhide K).2.2.2.2.1, (unhide K).2.2.2.2.2, kx⟩
  clear KEPT b kx
  have KEPT : Hid (∀ W u3, (Below w.heap.size w W ∧ Blk W w.heap.size [.int .i64 sn, .slice da1 dl1 dc1] ∧ Blk W (w.heap.size + 1) [.string p, .int .i64 nb, .int .i64 le, .int .i64 mo, .int .i64 ne, .slice va1 vl1 vc1] ∧ AbIs W lo8 hi9 a6 ((tkL sn zs ⟨p, nb, le, mo, ne, ys⟩ sl).length) c7 (tkL sn zs ⟨p, nb, le, mo, ne, ys⟩ sl) ∧ Blk W X5 [.int .i64 sn, .slice a6 ((tkL sn zs ⟨p, nb, le, mo, ne, ys⟩ sl).length) c7] ∧ AbIs W w4.heap.size w5.heap.size (some ⟨g10, 0, none⟩) dl1 dl1 zs ∧ Blk W X11 [.int .i64 sn, .slice (some ⟨g10, 0, none⟩) dl1 dl1]) → Below W.heap.size W u3 → (Below w.heap.size w u3 ∧ Blk u3 w.heap.size [.int .i64 sn, .slice da1 dl1 dc1] ∧ Blk u3 (w.heap.size + 1) [.string p, .int .i64 nb, .int .i64 le, .int .i64 mo, .int .i64 ne, .slice va1 vl1 vc1] ∧ AbIs u3 lo8 hi9 a6 ((tkL sn zs ⟨p, nb, le, mo, ne, ys⟩ sl).length) c7 (tkL sn zs ⟨p, nb, le, mo, ne, ys⟩ sl) ∧ Blk u3 X5 [.int .i64 sn, .slice a6 ((tkL sn zs ⟨p, nb, le, mo, ne, ys⟩ sl).length) c7] ∧ AbIs u3 w4.heap.size w5.heap.size (some ⟨g10, 0, none⟩) dl1 dl1 zs ∧ Blk u3 X11 [.int .i64 sn, .slice (some ⟨g10, 0, none⟩) dl1 dl1])) := hide (fun W u3 h b => ⟨h.1.trans (b.mono h.1.size), h.2.1.below b, h.2.2.1.below b, h.2.2.2.1.below b, h.2.2.2.2.1.below b, h.2.2.2.2.2.1.below b, h.2.2.2.2.2.2.below b⟩)
  have Hw6 := hide hw6
  have HX11 := hide hX11
  clear hw6 hX11
  go_wp2_with fail
  try rw [← unhide Hw6]
  try rw [unhide HX11]
  clear Hw6 HX11 mPd0 mPd1 mPv0 mPv1 mPv2 mPv3 mPv4 mPv5 mQW00 mQW01
  refine (toLoad18_own _ _ _ _ _ _ _ _ _ _ ((unhide Rv).below (unhide K).1) hv1).mono ?_
  rintro x w7 ⟨⟨g12, rfl, oc⟩, b⟩
  have LXx1 : Hid (LdLies w6.heap.size w7.heap.size (some ⟨g12, 0, none⟩) vl1 vl1) := hide oc.lies
  have S11 : Hid (w6.heap.size ≤ w7.heap.size) := hide b.size
  have K : Hid (Below w.heap.size w w7 ∧ Blk w7 w.heap.size [.int .i64 sn, .slice da1 dl1 dc1] ∧ Blk w7 (w.heap.size + 1) [.string p, .int .i64 nb, .int .i64 le, .int .i64 mo, .int .i64 ne, .slice va1 vl1 vc1] ∧ AbIs w7 lo8 hi9 a6 ((tkL sn zs ⟨p, nb, le, mo, ne, ys⟩ sl).length) c7 (tkL sn zs ⟨p, nb, le, mo, ne, ys⟩ sl) ∧ Blk w7 X5 [.int .i64 sn, .slice a6 ((tkL sn zs ⟨p, nb, le, mo, ne, ys⟩ sl).length) c7] ∧ AbIs w7 w4.heap.size w5.heap.size (some ⟨g10, 0, none⟩) dl1 dl1 zs ∧ Blk w7 X11 [.int .i64 sn, .slice (some ⟨g10, 0, none⟩) dl1 dl1]) := hide ((unhide KEPT) _ _ (unhide K) b)
  have K : Hid (Below w.heap.size w w7 ∧ Blk w7 w.heap.size [.int .i64 sn, .slice da1 dl1 dc1] ∧ Blk w7 (w.heap.size + 1) [.string p, .int .i64 nb, .int .i64 le, .int .i64 mo, .int .i64 ne, .slice va1 vl1 vc1] ∧ AbIs w7 lo8 hi9 a6 ((tkL sn zs ⟨p, nb, le, mo, ne, ys⟩ sl).length) c7 (tkL sn zs ⟨p, nb, le, mo, ne, ys⟩ sl) ∧ Blk w7 X5 [.int .i64 sn, .slice a6 ((tkL sn zs ⟨p, nb, le, mo, ne, ys⟩ sl).length) c7] ∧ AbIs w7 w4.heap.size w5.heap.size (some ⟨g10, 0, none⟩) dl1 dl1 zs ∧ Blk w7 X11 [.int .i64 sn, .slice (some ⟨g10, 0, none⟩) dl1 dl1] ∧ LdOwn w7 w6.heap.size (some ⟨g12, 0, none⟩) vl1 vl1 ys) := hide ⟨(unhide K).1, (unhide K).2.1, (unhide K).2.2.1, (unhide K).2.2.2.1, (unhide K).2.2.2.2.1, (unhide K).2.2.2.2.2.1, (unhide K).2.2.2.2.2.2, oc⟩
  clear KEPT oc b
  have KEPT : Hid (∀ W u3, (Below w.heap.size w W ∧ Blk W w.heap.size [.int .i64 sn, .slice da1 dl1 dc1] ∧ Blk W (w.heap.size + 1) [.string p, .int .i64 nb, .int .i64 le, .int .i64 mo, .int .i64 ne, .slice va1 vl1 vc1] ∧ AbIs W lo8 hi9 a6 ((tkL sn zs ⟨p, nb, le, mo, ne, ys⟩ sl).length) c7 (tkL sn zs ⟨p, nb, le, mo, ne, ys⟩ sl) ∧ Blk W X5 [.int .i64 sn, .slice a6 ((tkL sn zs ⟨p, nb, le, mo, ne, ys⟩ sl).length) c7] ∧ AbIs W w4.heap.size w5.heap.size (some ⟨g10, 0, none⟩) dl1 dl1 zs ∧ Blk W X11 [.int .i64 sn, .slice (some ⟨g10, 0, none⟩) dl1 dl1] ∧ LdOwn W w6.heap.size (some ⟨g12, 0, none⟩) vl1 vl1 ys) → Below W.heap.size W u3 → (Below w.heap.size w u3 ∧ Blk u3 w.heap.size [.int .i64 sn, .slice da1 dl1 dc1] ∧ Blk u3 (w.heap.size + 1) [.string p, .int .i64 nb, .int .i64 le, .int .i64 mo, .int .i64 ne, .slice va1 vl1 vc1] ∧ AbIs u3 lo8 hi9 a6 ((tkL sn zs ⟨p, nb, le, mo, ne, ys⟩ sl).length) c7 (tkL sn zs ⟨p, nb, le, mo, ne, ys⟩ sl) ∧ Blk u3 X5 [.int .i64 sn, .slice a6 ((tkL sn zs ⟨p, nb, le, mo, ne, ys⟩ sl).length) c7] ∧ AbIs u3 w4.heap.size w5.heap.size (some ⟨g10, 0, none⟩) dl1 dl1 zs ∧ Blk u3 X11 [.int .i64 sn, .slice (some ⟨g10, 0, none⟩) dl1 dl1] ∧ LdOwn u3 w6.heap.size (some ⟨g12, 0, none⟩) vl1 vl1 ys)) := hide (fun W u3 h b => ⟨h.1.trans (b.mono h.1.size), h.2.1.below b, h.2.2.1.below b, h.2.2.2.1.below b, h.2.2.2.2.1.below b, h.2.2.2.2.2.1.below b, h.2.2.2.2.2.2.1.below b, h.2.2.2.2.2.2.2.below b⟩)
  obtain ⟨w8, hw8⟩ : ∃ V, V = w7.alloc (Obj.cells #[.string p, .int .i64 nb, .int .i64 le, .int .i64 mo, .int .i64 ne, .slice (some ⟨g12, 0, none⟩) vl1 vl1] 32) := ⟨_, rfl⟩
  have b : Below w7.heap.size w7 w8 := by rw [hw8]; exact bel1 _
  have kx : Blk w8 w7.heap.size [.string p, .int .i64 nb, .int .i64 le, .int .i64 mo, .int .i64 ne, .slice (some ⟨g12, 0, none⟩) vl1 vl1] := by rw [hw8]; exact Blk.new _ _
  have S12 : Hid (w7.heap.size + 1 ≤ w8.heap.size) := hide (by rw [hw8]; simp)
  have S13 : Hid (w7.heap.size ≤ w8.heap.size) := hide b.size
  have K : Hid (Below w.heap.size w w8 ∧ Blk w8 w.heap.size [.int .i64 sn, .slice da1 dl1 dc1] ∧ Blk w8 (w.heap.size + 1) [.string p, .int .i64 nb, .int .i64 le, .int .i64 mo, .int .i64 ne, .slice va1 vl1 vc1] ∧ AbIs w8 lo8 hi9 a6 ((tkL sn zs ⟨p, nb, le, mo, ne, ys⟩ sl).length) c7 (tkL sn zs ⟨p, nb, le, mo, ne, ys⟩ sl) ∧ Blk w8 X5 [.int .i64 sn, .slice a6 ((tkL sn zs ⟨p, nb, le, mo, ne, ys⟩ sl).length) c7] ∧ AbIs w8 w4.heap.size w5.heap.size (some ⟨g10, 0, none⟩) dl1 dl1 zs ∧ Blk w8 X11 [.int .i64 sn, .slice (some ⟨g10, 0, none⟩) dl1 dl1] ∧ LdOwn w8 w6.heap.size (some ⟨g12, 0, none⟩) vl1 vl1 ys) := hide ((unhide KEPT) _ _ (unhide K) b)
  have mPd0 : w8.cell? ⟨w.heap.size, 0, none⟩ = some (.int .i64 sn) := (unhide K).2.1.c 0 (by simp)
  have mPd1 : w8.cell? ⟨w.heap.size, 1, none⟩ = some (.slice da1 dl1 dc1) := (unhide K).2.1.c 1 (by simp)
  have mPv0 : w8.cell? ⟨w.heap.size + 1, 0, none⟩ = some (.string p) := (unhide K).2.2.1.c 0 (by simp)
  have mPv1 : w8.cell? ⟨w.heap.size + 1, 1, none⟩ = some (.int .i64 nb) := (unhide K).2.2.1.c 1 (by simp)
  have mPv2 : w8.cell? ⟨w.heap.size + 1, 2, none⟩ = some (.int .i64 le) := (unhide K).2.2.1.c 2 (by simp)
  have mPv3 : w8.cell? ⟨w.heap.size + 1, 3, none⟩ = some (.int .i64 mo) := (unhide K).2.2.1.c 3 (by simp)
  have mPv4 : w8.cell? ⟨w.heap.size + 1, 4, none⟩ = some (.int .i64 ne) := (unhide K).2.2.1.c 4 (by simp)
  have mPv5 : w8.cell? ⟨w.heap.size + 1, 5, none⟩ = some (.slice va1 vl1 vc1) := (unhide K).2.2.1.c 5 (by simp)
  have mQW00 : w8.cell? ⟨X5, 0, none⟩ = some (.int .i64 sn) := (unhide K).2.2.2.2.1.c 0 (by simp)
  have mQW01 : w8.cell? ⟨X5, 1, none⟩ = some (.slice a6 ((tkL sn zs ⟨p, nb, le, mo, ne, ys⟩ sl).length) c7) := (unhide K).2.2.2.2.1.c 1 (by simp)
  have mQXx00 : w8.cell? ⟨X11, 0, none⟩ = some (.int .i64 sn) := (unhide K).2.2.2.2.2.2.1.c 0 (by simp)
  have mQXx01 : w8.cell? ⟨X11, 1, none⟩ = some (.slice (some ⟨g10, 0, none⟩) dl1 dl1) := (unhide K).2.2.2.2.2.2.1.c 1 (by simp)
  rw [hw8] at mPd0 mPd1 mPv0 mPv1 mPv2 mPv3 mPv4 mPv5 mQW00 mQW01 mQXx00 mQXx01
  obtain ⟨X13, hX13⟩ : ∃ X, w7.heap.size = X := ⟨_, rfl⟩
  rw [hX13] at kx
  have S14 : Hid (w7.heap.size = X13) := hide hX13
  have K : Hid (Below w.heap.size w w8 ∧ Blk w8 w.heap.size [.int .i64 sn, .slice da1 dl1 dc1] ∧ Blk w8 (w.heap.size + 1) [.string p, .int .i64 nb, .int .i64 le, .int .i64 mo, .int .i64 ne, .slice va1 vl1 vc1] ∧ AbIs w8 lo8 hi9 a6 ((tkL sn zs ⟨p, nb, le, mo, ne, ys⟩ sl).length) c7 (tkL sn zs ⟨p, nb, le, mo, ne, ys⟩ sl) ∧ Blk w8 X5 [.int .i64 sn, .slice a6 ((tkL sn zs ⟨p, nb, le, mo, ne, ys⟩ sl).length) c7] ∧ AbIs w8 w4.heap.size w5.heap.size (some ⟨g10, 0, none⟩) dl1 dl1 zs ∧ Blk w8 X11 [.int .i64 sn, .slice (some ⟨g10, 0, none⟩) dl1 dl1] ∧ LdOwn w8 w6.heap.size (some ⟨g12, 0, none⟩) vl1 vl1 ys ∧ Blk w8 X13 [.string p, .int .i64 nb, .int .i64 le, .int .i64 mo, .int .i64 ne, .slice (some ⟨g12, 0, none⟩) vl1 vl1]) := hide ⟨(unhide K).1, (unhide K).2.1, (unhide K).2.2.1, (unhide K).2.2.2.1, (unhide K).2.2.2.2.1, (unhide K).2.2.2.2.2.1, (unhide K).2.2.2.2.2.2.1, (unhide K).2.2.2.2.2.2.2, kx⟩
  clear KEPT b kx
  have KEPT : Hid (∀ W u3, (Below w.heap.size w W ∧ Blk W w.heap.size [.int .i64 sn, .slice da1 dl1 dc1] ∧ Blk W (w.heap.size + 1) [.string p, .int .i64 nb, .int .i64 le, .int .i64 mo, .int .i64 ne, .slice va1 vl1 vc1] ∧ AbIs W lo8 hi9 a6 ((tkL sn zs ⟨p, nb, le, mo, ne, ys⟩ sl).length) c7 (tkL sn zs ⟨p, nb, le, mo, ne, ys⟩ sl) ∧ Blk W X5 [.int .i64 sn, .slice a6 ((tkL sn zs ⟨p, nb, le, mo, ne, ys⟩ sl).length) c7] ∧ AbIs W w4.heap.size w5.heap.size (some ⟨g10, 0, none⟩) dl1 dl1 zs ∧ Blk W X11 [.int .i64 sn, .slice (some ⟨g10, 0, none⟩) dl1 dl1] ∧ LdOwn W w6.heap.size (some ⟨g12, 0, none⟩) vl1 vl1 ys ∧ Blk W X13 [.string p, .int .i64 nb, .int .i64 le, .int .i64 mo, .int .i64 ne, .slice (some ⟨g12, 0, none⟩) vl1 vl1]) → Below W.heap.size W u3 → (Below w.heap.size w u3 ∧ Blk u3 w.heap.size [.int .i64 sn, .slice da1 dl1 dc1] ∧ Blk u3 (w.heap.size + 1) [.string p, .int .i64 nb, .int .i64 le, .int .i64 mo, .int .i64 ne, .slice va1 vl1 vc1] ∧ AbIs u3 lo8 hi9 a6 ((tkL sn zs ⟨p, nb, le, mo, ne, ys⟩ sl).length) c7 (tkL sn zs ⟨p, nb, le, mo, ne, ys⟩ sl) ∧ Blk u3 X5 [.int .i64 sn, .slice a6 ((tkL sn zs ⟨p, nb, le, mo, ne, ys⟩ sl).length) c7] ∧ AbIs u3 w4.heap.size w5.heap.size (some ⟨g10, 0, none⟩) dl1 dl1 zs ∧ Blk u3 X11 [.int .i64 sn, .slice (some ⟨g10, 0, none⟩) dl1 dl1] ∧ LdOwn u3 w6.heap.size (some ⟨g12, 0, none⟩) vl1 vl1 ys ∧ Blk u3 X13 [.string p, .int .i64 nb, .int .i64 le, .int .i64 mo, .int .i64 ne, .slice (some ⟨g12, 0, none⟩) vl1 vl1])) := hide (fun W u3 h b => ⟨h.1.trans (b.mono h.1.size), h.2.1.below b, h.2.2.1.below b, h.2.2.2.1.below b, h.2.2.2.2.1.below b, h.2.2.2.2.2.1.below b, h.2.2.2.2.2.2.1.below b, h.2.2.2.2.2.2.2.1.below b, h.2.2.2.2.2.2.2.2.below b⟩)
  have Hw8 := hide hw8
  have HX13 := hide hX13
  clear hw8 hX13
  go_wp2_with fail
  try rw [← unhide Hw8]
  try rw [unhide HX13]
  clear Hw8 HX13 mPd0 mPd1 mPv0 mPv1 mPv2 mPv3 mPv4 mPv5 mQW00 mQW01 mQXx00 mQXx01
  refine (implTakeL_any _ _ _ _ _ _ _ _ _ _ _ _ _ _ _ _ (unhide K).2.2.2.2.2.1.read (unhide K).2.2.2.2.2.2.2.1.read (Nat.le_refl _) hd1 hv1 txv0 (unhide BYV) ((unhide HGS).below (unhide K).1)).mono ?_
  rintro x w9 ⟨a14, c15, rfl, oG_0, b⟩
  have S15 : Hid (w8.heap.size ≤ w9.heap.size) := hide b.size
  have K : Hid (Below w.heap.size w w9 ∧ Blk w9 w.heap.size [.int .i64 sn, .slice da1 dl1 dc1] ∧ Blk w9 (w.heap.size + 1) [.string p, .int .i64 nb, .int .i64 le, .int .i64 mo, .int .i64 ne, .slice va1 vl1 vc1] ∧ AbIs w9 lo8 hi9 a6 ((tkL sn zs ⟨p, nb, le, mo, ne, ys⟩ sl).length) c7 (tkL sn zs ⟨p, nb, le, mo, ne, ys⟩ sl) ∧ Blk w9 X5 [.int .i64 sn, .slice a6 ((tkL sn zs ⟨p, nb, le, mo, ne, ys⟩ sl).length) c7] ∧ AbIs w9 w4.heap.size w5.heap.size (some ⟨g10, 0, none⟩) dl1 dl1 zs ∧ Blk w9 X11 [.int .i64 sn, .slice (some ⟨g10, 0, none⟩) dl1 dl1] ∧ LdOwn w9 w6.heap.size (some ⟨g12, 0, none⟩) vl1 vl1 ys ∧ Blk w9 X13 [.string p, .int .i64 nb, .int .i64 le, .int .i64 mo, .int .i64 ne, .slice (some ⟨g12, 0, none⟩) vl1 vl1]) := hide ((unhide KEPT) _ _ (unhide K) b)
  have K : Hid (Below w.heap.size w w9 ∧ Blk w9 w.heap.size [.int .i64 sn, .slice da1 dl1 dc1] ∧ Blk w9 (w.heap.size + 1) [.string p, .int .i64 nb, .int .i64 le, .int .i64 mo, .int .i64 ne, .slice va1 vl1 vc1] ∧ AbIs w9 lo8 hi9 a6 ((tkL sn zs ⟨p, nb, le, mo, ne, ys⟩ sl).length) c7 (tkL sn zs ⟨p, nb, le, mo, ne, ys⟩ sl) ∧ Blk w9 X5 [.int .i64 sn, .slice a6 ((tkL sn zs ⟨p, nb, le, mo, ne, ys⟩ sl).length) c7] ∧ AbIs w9 w4.heap.size w5.heap.size (some ⟨g10, 0, none⟩) dl1 dl1 zs ∧ Blk w9 X11 [.int .i64 sn, .slice (some ⟨g10, 0, none⟩) dl1 dl1] ∧ LdOwn w9 w6.heap.size (some ⟨g12, 0, none⟩) vl1 vl1 ys ∧ Blk w9 X13 [.string p, .int .i64 nb, .int .i64 le, .int .i64 mo, .int .i64 ne, .slice (some ⟨g12, 0, none⟩) vl1 vl1] ∧ AbIs w9 w8.heap.size w9.heap.size a14 ((tkL sn zs ⟨p, nb, le, mo, ne, ys⟩ sl).length) c15 (tkL sn zs ⟨p, nb, le, mo, ne, ys⟩ sl)) := hide ⟨(unhide K).1, (unhide K).2.1, (unhide K).2.2.1, (unhide K).2.2.2.1, (unhide K).2.2.2.2.1, (unhide K).2.2.2.2.2.1, (unhide K).2.2.2.2.2.2.1, (unhide K).2.2.2.2.2.2.2.1, (unhide K).2.2.2.2.2.2.2.2, oG_0.is⟩
  clear KEPT
  have KEPT : Hid (∀ W u3, (Below w.heap.size w W ∧ Blk W w.heap.size [.int .i64 sn, .slice da1 dl1 dc1] ∧ Blk W (w.heap.size + 1) [.string p, .int .i64 nb, .int .i64 le, .int .i64 mo, .int .i64 ne, .slice va1 vl1 vc1] ∧ AbIs W lo8 hi9 a6 ((tkL sn zs ⟨p, nb, le, mo, ne, ys⟩ sl).length) c7 (tkL sn zs ⟨p, nb, le, mo, ne, ys⟩ sl) ∧ Blk W X5 [.int .i64 sn, .slice a6 ((tkL sn zs ⟨p, nb, le, mo, ne, ys⟩ sl).length) c7] ∧ AbIs W w4.heap.size w5.heap.size (some ⟨g10, 0, none⟩) dl1 dl1 zs ∧ Blk W X11 [.int .i64 sn, .slice (some ⟨g10, 0, none⟩) dl1 dl1] ∧ LdOwn W w6.heap.size (some ⟨g12, 0, none⟩) vl1 vl1 ys ∧ Blk W X13 [.string p, .int .i64 nb, .int .i64 le, .int .i64 mo, .int .i64 ne, .slice (some ⟨g12, 0, none⟩) vl1 vl1] ∧ AbIs W w8.heap.size w9.heap.size a14 ((tkL sn zs ⟨p, nb, le, mo, ne, ys⟩ sl).length) c15 (tkL sn zs ⟨p, nb, le, mo, ne, ys⟩ sl)) → Below W.heap.size W u3 → (Below w.heap.size w u3 ∧ Blk u3 w.heap.size [.int .i64 sn, .slice da1 dl1 dc1] ∧ Blk u3 (w.heap.size + 1) [.string p, .int .i64 nb, .int .i64 le, .int .i64 mo, .int .i64 ne, .slice va1 vl1 vc1] ∧ AbIs u3 lo8 hi9 a6 ((tkL sn zs ⟨p, nb, le, mo, ne, ys⟩ sl).length) c7 (tkL sn zs ⟨p, nb, le, mo, ne, ys⟩ sl) ∧ Blk u3 X5 [.int .i64 sn, .slice a6 ((tkL sn zs ⟨p, nb, le, mo, ne, ys⟩ sl).length) c7] ∧ AbIs u3 w4.heap.size w5.heap.size (some ⟨g10, 0, none⟩) dl1 dl1 zs ∧ Blk u3 X11 [.int .i64 sn, .slice (some ⟨g10, 0, none⟩) dl1 dl1] ∧ LdOwn u3 w6.heap.size (some ⟨g12, 0, none⟩) vl1 vl1 ys ∧ Blk u3 X13 [.string p, .int .i64 nb, .int .i64 le, .int .i64 mo, .int .i64 ne, .slice (some ⟨g12, 0, none⟩) vl1 vl1] ∧ AbIs u3 w8.heap.size w9.heap.size a14 ((tkL sn zs ⟨p, nb, le, mo, ne, ys⟩ sl).length) c15 (tkL sn zs ⟨p, nb, le, mo, ne, ys⟩ sl))) := hide (fun W u3 h b => ⟨h.1.trans (b.mono h.1.size), h.2.1.below b, h.2.2.1.below b, h.2.2.2.1.below b, h.2.2.2.2.1.below b, h.2.2.2.2.2.1.below b, h.2.2.2.2.2.2.1.below b, h.2.2.2.2.2.2.2.1.below b, h.2.2.2.2.2.2.2.2.1.below b, h.2.2.2.2.2.2.2.2.2.below b⟩)
  clear oG_0
  clear b
  obtain ⟨w10, hw10⟩ : ∃ V, V = w9.alloc (Obj.cells #[.int .i64 sn, .slice a14 ((tkL sn zs ⟨p, nb, le, mo, ne, ys⟩ sl).length) c15] 26) := ⟨_, rfl⟩
  have b : Below w9.heap.size w9 w10 := by rw [hw10]; exact bel1 _
  have kx : Blk w10 w9.heap.size [.int .i64 sn, .slice a14 ((tkL sn zs ⟨p, nb, le, mo, ne, ys⟩ sl).length) c15] := by rw [hw10]; exact Blk.new _ _
  have S16 : Hid (w9.heap.size + 1 ≤ w10.heap.size) := hide (by rw [hw10]; simp)
  have S17 : Hid (w9.heap.size ≤ w10.heap.size) := hide b.size
  have K : Hid (Below w.heap.size w w10 ∧ Blk w10 w.heap.size [.int .i64 sn, .slice da1 dl1 dc1] ∧ Blk w10 (w.heap.size + 1) [.string p, .int .i64 nb, .int .i64 le, .int .i64 mo, .int .i64 ne, .slice va1 vl1 vc1] ∧ AbIs w10 lo8 hi9 a6 ((tkL sn zs ⟨p, nb, le, mo, ne, ys⟩ sl).length) c7 (tkL sn zs ⟨p, nb, le, mo, ne, ys⟩ sl) ∧ Blk w10 X5 [.int .i64 sn, .slice a6 ((tkL sn zs ⟨p, nb, le, mo, ne, ys⟩ sl).length) c7] ∧ AbIs w10 w4.heap.size w5.heap.size (some ⟨g10, 0, none⟩) dl1 dl1 zs ∧ Blk w10 X11 [.int .i64 sn, .slice (some ⟨g10, 0, none⟩) dl1 dl1] ∧ LdOwn w10 w6.heap.size (some ⟨g12, 0, none⟩) vl1 vl1 ys ∧ Blk w10 X13 [.string p, .int .i64 nb, .int .i64 le, .int .i64 mo, .int .i64 ne, .slice (some ⟨g12, 0, none⟩) vl1 vl1] ∧ AbIs w10 w8.heap.size w9.heap.size a14 ((tkL sn zs ⟨p, nb, le, mo, ne, ys⟩ sl).length) c15 (tkL sn zs ⟨p, nb, le, mo, ne, ys⟩ sl)) := hide ((unhide KEPT) _ _ (unhide K) b)
  have mPd0 : w10.cell? ⟨w.heap.size, 0, none⟩ = some (.int .i64 sn) := (unhide K).2.1.c 0 (by simp)
  have mPd1 : w10.cell? ⟨w.heap.size, 1, none⟩ = some (.slice da1 dl1 dc1) := (unhide K).2.1.c 1 (by simp)
  have mPv0 : w10.cell? ⟨w.heap.size + 1, 0, none⟩ = some (.string p) := (unhide K).2.2.1.c 0 (by simp)
  have mPv1 : w10.cell? ⟨w.heap.size + 1, 1, none⟩ = some (.int .i64 nb) := (unhide K).2.2.1.c 1 (by simp)
  have mPv2 : w10.cell? ⟨w.heap.size + 1, 2, none⟩ = some (.int .i64 le) := (unhide K).2.2.1.c 2 (by simp)
  have mPv3 : w10.cell? ⟨w.heap.size + 1, 3, none⟩ = some (.int .i64 mo) := (unhide K).2.2.1.c 3 (by simp)
  have mPv4 : w10.cell? ⟨w.heap.size + 1, 4, none⟩ = some (.int .i64 ne) := (unhide K).2.2.1.c 4 (by simp)
  have mPv5 : w10.cell? ⟨w.heap.size + 1, 5, none⟩ = some (.slice va1 vl1 vc1) := (unhide K).2.2.1.c 5 (by simp)
  have mQW00 : w10.cell? ⟨X5, 0, none⟩ = some (.int .i64 sn) := (unhide K).2.2.2.2.1.c 0 (by simp)
  have mQW01 : w10.cell? ⟨X5, 1, none⟩ = some (.slice a6 ((tkL sn zs ⟨p, nb, le, mo, ne, ys⟩ sl).length) c7) := (unhide K).2.2.2.2.1.c 1 (by simp)
  have mQXx00 : w10.cell? ⟨X11, 0, none⟩ = some (.int .i64 sn) := (unhide K).2.2.2.2.2.2.1.c 0 (by simp)
  have mQXx01 : w10.cell? ⟨X11, 1, none⟩ = some (.slice (some ⟨g10, 0, none⟩) dl1 dl1) := (unhide K).2.2.2.2.2.2.1.c 1 (by simp)
  have mQXx10 : w10.cell? ⟨X13, 0, none⟩ = some (.string p) := (unhide K).2.2.2.2.2.2.2.2.1.c 0 (by simp)
  have mQXx11 : w10.cell? ⟨X13, 1, none⟩ = some (.int .i64 nb) := (unhide K).2.2.2.2.2.2.2.2.1.c 1 (by simp)
  have mQXx12 : w10.cell? ⟨X13, 2, none⟩ = some (.int .i64 le) := (unhide K).2.2.2.2.2.2.2.2.1.c 2 (by simp)
  have mQXx13 : w10.cell? ⟨X13, 3, none⟩ = some (.int .i64 mo) := (unhide K).2.2.2.2.2.2.2.2.1.c 3 (by simp)
  have mQXx14 : w10.cell? ⟨X13, 4, none⟩ = some (.int .i64 ne) := (unhide K).2.2.2.2.2.2.2.2.1.c 4 (by simp)
  have mQXx15 : w10.cell? ⟨X13, 5, none⟩ = some (.slice (some ⟨g12, 0, none⟩) vl1 vl1) := (unhide K).2.2.2.2.2.2.2.2.1.c 5 (by simp)
  rw [hw10] at mPd0 mPd1 mPv0 mPv1 mPv2 mPv3 mPv4 mPv5 mQW00 mQW01 mQXx00 mQXx01 mQXx10 mQXx11 mQXx12 mQXx13 mQXx14 mQXx15
  obtain ⟨X16, hX16⟩ : ∃ X, w9.heap.size = X := ⟨_, rfl⟩
  rw [hX16] at kx
  have S18 : Hid (w9.heap.size = X16) := hide hX16
  have K : Hid (Below w.heap.size w w10 ∧ Blk w10 w.heap.size [.int .i64 sn, .slice da1 dl1 dc1] ∧ Blk w10 (w.heap.size + 1) [.string p, .int .i64 nb, .int .i64 le, .int .i64 mo, .int .i64 ne, .slice va1 vl1 vc1] ∧ AbIs w10 lo8 hi9 a6 ((tkL sn zs ⟨p, nb, le, mo, ne, ys⟩ sl).length) c7 (tkL sn zs ⟨p, nb, le, mo, ne, ys⟩ sl) ∧ Blk w10 X5 [.int .i64 sn, .slice a6 ((tkL sn zs ⟨p, nb, le, mo, ne, ys⟩ sl).length) c7] ∧ AbIs w10 w4.heap.size w5.heap.size (some ⟨g10, 0, none⟩) dl1 dl1 zs ∧ Blk w10 X11 [.int .i64 sn, .slice (some ⟨g10, 0, none⟩) dl1 dl1] ∧ LdOwn w10 w6.heap.size (some ⟨g12, 0, none⟩) vl1 vl1 ys ∧ Blk w10 X13 [.string p, .int .i64 nb, .int .i64 le, .int .i64 mo, .int .i64 ne, .slice (some ⟨g12, 0, none⟩) vl1 vl1] ∧ AbIs w10 w8.heap.size w9.heap.size a14 ((tkL sn zs ⟨p, nb, le, mo, ne, ys⟩ sl).length) c15 (tkL sn zs ⟨p, nb, le, mo, ne, ys⟩ sl) ∧ Blk w10 X16 [.int .i64 sn, .slice a14 ((tkL sn zs ⟨p, nb, le, mo, ne, ys⟩ sl).length) c15]) := hide ⟨(unhide K).1, (unhide K).2.1, (unhide K).2.2.1, (unhide K).2.2.2.1, (unhide K).2.2.2.2.1, (unhide K).2.2.2.2.2.1, (unhide K).2.2.2.2.2.2.1, (unhide K).2.2.2.2.2.2.2.1, (unhide K).2.2.2.2.2.2.2.2.1, (unhide K).2.2.2.2.2.2.2.2.2, kx⟩
  clear KEPT b kx
  have KEPT : Hid (∀ W u3, (Below w.heap.size w W ∧ Blk W w.heap.size [.int .i64 sn, .slice da1 dl1 dc1] ∧ Blk W (w.heap.size + 1) [.string p, .int .i64 nb, .int .i64 le, .int .i64 mo, .int .i64 ne, .slice va1 vl1 vc1] ∧ AbIs W lo8 hi9 a6 ((tkL sn zs ⟨p, nb, le, mo, ne, ys⟩ sl).length) c7 (tkL sn zs ⟨p, nb, le, mo, ne, ys⟩ sl) ∧ Blk W X5 [.int .i64 sn, .slice a6 ((tkL sn zs ⟨p, nb, le, mo, ne, ys⟩ sl).length) c7] ∧ AbIs W w4.heap.size w5.heap.size (some ⟨g10, 0, none⟩) dl1 dl1 zs ∧ Blk W X11 [.int .i64 sn, .slice (some ⟨g10, 0, none⟩) dl1 dl1] ∧ LdOwn W w6.heap.size (some ⟨g12, 0, none⟩) vl1 vl1 ys ∧ Blk W X13 [.string p, .int .i64 nb, .int .i64 le, .int .i64 mo, .int .i64 ne, .slice (some ⟨g12, 0, none⟩) vl1 vl1] ∧ AbIs W w8.heap.size w9.heap.size a14 ((tkL sn zs ⟨p, nb, le, mo, ne, ys⟩ sl).length) c15 (tkL sn zs ⟨p, nb, le, mo, ne, ys⟩ sl) ∧ Blk W X16 [.int .i64 sn, .slice a14 ((tkL sn zs ⟨p, nb, le, mo, ne, ys⟩ sl).length) c15]) → Below W.heap.size W u3 → (Below w.heap.size w u3 ∧ Blk u3 w.heap.size [.int .i64 sn, .slice da1 dl1 dc1] ∧ Blk u3 (w.heap.size + 1) [.string p, .int .i64 nb, .int .i64 le, .int .i64 mo, .int .i64 ne, .slice va1 vl1 vc1] ∧ AbIs u3 lo8 hi9 a6 ((tkL sn zs ⟨p, nb, le, mo, ne, ys⟩ sl).length) c7 (tkL sn zs ⟨p, nb, le, mo, ne, ys⟩ sl) ∧ Blk u3 X5 [.int .i64 sn, .slice a6 ((tkL sn zs ⟨p, nb, le, mo, ne, ys⟩ sl).length) c7] ∧ AbIs u3 w4.heap.size w5.heap.size (some ⟨g10, 0, none⟩) dl1 dl1 zs ∧ Blk u3 X11 [.int .i64 sn, .slice (some ⟨g10, 0, none⟩) dl1 dl1] ∧ LdOwn u3 w6.heap.size (some ⟨g12, 0, none⟩) vl1 vl1 ys ∧ Blk u3 X13 [.string p, .int .i64 nb, .int .i64 le, .int .i64 mo, .int .i64 ne, .slice (some ⟨g12, 0, none⟩) vl1 vl1] ∧ AbIs u3 w8.heap.size w9.heap.size a14 ((tkL sn zs ⟨p, nb, le, mo, ne, ys⟩ sl).length) c15 (tkL sn zs ⟨p, nb, le, mo, ne, ys⟩ sl) ∧ Blk u3 X16 [.int .i64 sn, .slice a14 ((tkL sn zs ⟨p, nb, le, mo, ne, ys⟩ sl).length) c15])) := hide (fun W u3 h b => ⟨h.1.trans (b.mono h.1.size), h.2.1.below b, h.2.2.1.below b, h.2.2.2.1.below b, h.2.2.2.2.1.below b, h.2.2.2.2.2.1.below b, h.2.2.2.2.2.2.1.below b, h.2.2.2.2.2.2.2.1.below b, h.2.2.2.2.2.2.2.2.1.below b, h.2.2.2.2.2.2.2.2.2.1.below b, h.2.2.2.2.2.2.2.2.2.2.below b⟩)
  have Hw10 := hide hw10
  have HX16 := hide hX16
  clear hw10 hX16
  go_wp2_with fail
  try rw [← unhide Hw10]
  try rw [unhide HX16]
  clear Hw10 HX16 mPd0 mPd1 mPv0 mPv1 mPv2 mPv3 mPv4 mPv5 mQW00 mQW01 mQXx00 mQXx01 mQXx10 mQXx11 mQXx12 mQXx13 mQXx14 mQXx15
  refine (eqAboard_same _ _ _ _ _ _ _ _ (unhide K).2.2.2.2.2.2.2.2.2.1.read (unhide K).2.2.2.1.read).mono ?_
  rintro x w11 ⟨rfl, b⟩
  have S19 : Hid (w10.heap.size ≤ w11.heap.size) := hide b.size
  have K : Hid (Below w.heap.size w w11 ∧ Blk w11 w.heap.size [.int .i64 sn, .slice da1 dl1 dc1] ∧ Blk w11 (w.heap.size + 1) [.string p, .int .i64 nb, .int .i64 le, .int .i64 mo, .int .i64 ne, .slice va1 vl1 vc1] ∧ AbIs w11 lo8 hi9 a6 ((tkL sn zs ⟨p, nb, le, mo, ne, ys⟩ sl).length) c7 (tkL sn zs ⟨p, nb, le, mo, ne, ys⟩ sl) ∧ Blk w11 X5 [.int .i64 sn, .slice a6 ((tkL sn zs ⟨p, nb, le, mo, ne, ys⟩ sl).length) c7] ∧ AbIs w11 w4.heap.size w5.heap.size (some ⟨g10, 0, none⟩) dl1 dl1 zs ∧ Blk w11 X11 [.int .i64 sn, .slice (some ⟨g10, 0, none⟩) dl1 dl1] ∧ LdOwn w11 w6.heap.size (some ⟨g12, 0, none⟩) vl1 vl1 ys ∧ Blk w11 X13 [.string p, .int .i64 nb, .int .i64 le, .int .i64 mo, .int .i64 ne, .slice (some ⟨g12, 0, none⟩) vl1 vl1] ∧ AbIs w11 w8.heap.size w9.heap.size a14 ((tkL sn zs ⟨p, nb, le, mo, ne, ys⟩ sl).length) c15 (tkL sn zs ⟨p, nb, le, mo, ne, ys⟩ sl) ∧ Blk w11 X16 [.int .i64 sn, .slice a14 ((tkL sn zs ⟨p, nb, le, mo, ne, ys⟩ sl).length) c15]) := hide ((unhide KEPT) _ _ (unhide K) b)
  clear b
  have mPd0 : w11.cell? ⟨w.heap.size, 0, none⟩ = some (.int .i64 sn) := (unhide K).2.1.c 0 (by simp)
  have mPd1 : w11.cell? ⟨w.heap.size, 1, none⟩ = some (.slice da1 dl1 dc1) := (unhide K).2.1.c 1 (by simp)
  have mPv0 : w11.cell? ⟨w.heap.size + 1, 0, none⟩ = some (.string p) := (unhide K).2.2.1.c 0 (by simp)
  have mPv1 : w11.cell? ⟨w.heap.size + 1, 1, none⟩ = some (.int .i64 nb) := (unhide K).2.2.1.c 1 (by simp)
  have mPv2 : w11.cell? ⟨w.heap.size + 1, 2, none⟩ = some (.int .i64 le) := (unhide K).2.2.1.c 2 (by simp)
  have mPv3 : w11.cell? ⟨w.heap.size + 1, 3, none⟩ = some (.int .i64 mo) := (unhide K).2.2.1.c 3 (by simp)
  have mPv4 : w11.cell? ⟨w.heap.size + 1, 4, none⟩ = some (.int .i64 ne) := (unhide K).2.2.1.c 4 (by simp)
  have mPv5 : w11.cell? ⟨w.heap.size + 1, 5, none⟩ = some (.slice va1 vl1 vc1) := (unhide K).2.2.1.c 5 (by simp)
  have mQW00 : w11.cell? ⟨X5, 0, none⟩ = some (.int .i64 sn) := (unhide K).2.2.2.2.1.c 0 (by simp)
  have mQW01 : w11.cell? ⟨X5, 1, none⟩ = some (.slice a6 ((tkL sn zs ⟨p, nb, le, mo, ne, ys⟩ sl).length) c7) := (unhide K).2.2.2.2.1.c 1 (by simp)
  have mQXx00 : w11.cell? ⟨X11, 0, none⟩ = some (.int .i64 sn) := (unhide K).2.2.2.2.2.2.1.c 0 (by simp)
  have mQXx01 : w11.cell? ⟨X11, 1, none⟩ = some (.slice (some ⟨g10, 0, none⟩) dl1 dl1) := (unhide K).2.2.2.2.2.2.1.c 1 (by simp)
  have mQXx10 : w11.cell? ⟨X13, 0, none⟩ = some (.string p) := (unhide K).2.2.2.2.2.2.2.2.1.c 0 (by simp)
  have mQXx11 : w11.cell? ⟨X13, 1, none⟩ = some (.int .i64 nb) := (unhide K).2.2.2.2.2.2.2.2.1.c 1 (by simp)
  have mQXx12 : w11.cell? ⟨X13, 2, none⟩ = some (.int .i64 le) := (unhide K).2.2.2.2.2.2.2.2.1.c 2 (by simp)
  have mQXx13 : w11.cell? ⟨X13, 3, none⟩ = some (.int .i64 mo) := (unhide K).2.2.2.2.2.2.2.2.1.c 3 (by simp)
  have mQXx14 : w11.cell? ⟨X13, 4, none⟩ = some (.int .i64 ne) := (unhide K).2.2.2.2.2.2.2.2.1.c 4 (by simp)
  have mQXx15 : w11.cell? ⟨X13, 5, none⟩ = some (.slice (some ⟨g12, 0, none⟩) vl1 vl1) := (unhide K).2.2.2.2.2.2.2.2.1.c 5 (by simp)
  have mQG00 : w11.cell? ⟨X16, 0, none⟩ = some (.int .i64 sn) := (unhide K).2.2.2.2.2.2.2.2.2.2.c 0 (by simp)
  have mQG01 : w11.cell? ⟨X16, 1, none⟩ = some (.slice a14 ((tkL sn zs ⟨p, nb, le, mo, ne, ys⟩ sl).length) c15) := (unhide K).2.2.2.2.2.2.2.2.2.2.c 1 (by simp)
  go_wp2_with fail
  clear mPd0 mPd1 mPv0 mPv1 mPv2 mPv3 mPv4 mPv5 mQW00 mQW01 mQXx00 mQXx01 mQXx10 mQXx11 mQXx12 mQXx13 mQXx14 mQXx15 mQG00 mQG01
  have mQXx00 : w11.cell? ⟨X11, 0, none⟩ = some (.int .i64 sn) := (unhide K).2.2.2.2.2.2.1.c 0 (by simp)
  have mQXx01 : w11.cell? ⟨X11, 1, none⟩ = some (.slice (some ⟨g10, 0, none⟩) dl1 dl1) := (unhide K).2.2.2.2.2.2.1.c 1 (by simp)
  have mPd0 : w11.cell? ⟨w.heap.size, 0, none⟩ = some (.int .i64 sn) := (unhide K).2.1.c 0 (by simp)
  have mPd1 : w11.cell? ⟨w.heap.size, 1, none⟩ = some (.slice da1 dl1 dc1) := (unhide K).2.1.c 1 (by simp)
  go_region_held3 (fun w' => w'.cell? ⟨X11, 0, none⟩ = some (.int .i64 sn) ∧ w'.cell? ⟨X11, 1, none⟩ = some (.slice (some ⟨g10, 0, none⟩) dl1 dl1) ∧ w'.cell? ⟨w.heap.size, 0, none⟩ = some (.int .i64 sn) ∧ w'.cell? ⟨w.heap.size, 1, none⟩ = some (.slice da1 dl1 dc1)) (go_keep)
    ((first
      | (go_at_call 18; refine (toAboard_own _ _ _ _ _ _ (by first | exact (unhide Rd).below (unhide K).1 | exact ((unhide Rd).below (unhide K).1).below (bel0d 1)) hd1).mono ?_; rintro x w12 ⟨⟨e17, rfl, oc⟩, b⟩; have IC := hide oc.read; clear oc; have S20 : Hid (w11.heap.size ≤ w12.heap.size) := hide b.size; have K := hide (show Below w.heap.size w w12 ∧ Blk w12 w.heap.size [.int .i64 sn, .slice da1 dl1 dc1] ∧ Blk w12 (w.heap.size + 1) [.string p, .int .i64 nb, .int .i64 le, .int .i64 mo, .int .i64 ne, .slice va1 vl1 vc1] ∧ AbIs w12 lo8 hi9 a6 ((tkL sn zs ⟨p, nb, le, mo, ne, ys⟩ sl).length) c7 (tkL sn zs ⟨p, nb, le, mo, ne, ys⟩ sl) ∧ Blk w12 X5 [.int .i64 sn, .slice a6 ((tkL sn zs ⟨p, nb, le, mo, ne, ys⟩ sl).length) c7] ∧ AbIs w12 w4.heap.size w5.heap.size (some ⟨g10, 0, none⟩) dl1 dl1 zs ∧ Blk w12 X11 [.int .i64 sn, .slice (some ⟨g10, 0, none⟩) dl1 dl1] ∧ LdOwn w12 w6.heap.size (some ⟨g12, 0, none⟩) vl1 vl1 ys ∧ Blk w12 X13 [.string p, .int .i64 nb, .int .i64 le, .int .i64 mo, .int .i64 ne, .slice (some ⟨g12, 0, none⟩) vl1 vl1] ∧ AbIs w12 w8.heap.size w9.heap.size a14 ((tkL sn zs ⟨p, nb, le, mo, ne, ys⟩ sl).length) c15 (tkL sn zs ⟨p, nb, le, mo, ne, ys⟩ sl) ∧ Blk w12 X16 [.int .i64 sn, .slice a14 ((tkL sn zs ⟨p, nb, le, mo, ne, ys⟩ sl).length) c15] from by first | exact (unhide KEPT) _ _ (unhide K) b | exact (unhide KEPT) _ _ ((unhide KEPT) _ _ (unhide K) (bel0d 1)) b); clear mQXx00 mQXx01 mPd0 mPd1; have mQXx00 : w12.cell? ⟨X11, 0, none⟩ = some (.int .i64 sn) := (unhide K).2.2.2.2.2.2.1.c 0 (by simp); have mQXx01 : w12.cell? ⟨X11, 1, none⟩ = some (.slice (some ⟨g10, 0, none⟩) dl1 dl1) := (unhide K).2.2.2.2.2.2.1.c 1 (by simp); have mPd0 : w12.cell? ⟨w.heap.size, 0, none⟩ = some (.int .i64 sn) := (unhide K).2.1.c 0 (by simp); have mPd1 : w12.cell? ⟨w.heap.size, 1, none⟩ = some (.slice da1 dl1 dc1) := (unhide K).2.1.c 1 (by simp); clear b)
      | (go_at_call 20; refine (eqAboard_same _ _ _ _ _ _ _ _ (by first | exact (unhide K).2.2.2.2.2.1.read | exact (unhide K).2.2.2.2.2.1.read.below (bel0d 1)) (by first | exact unhide IC | exact (unhide IC).below (bel0d 1))).mono ?_; rintro x w13 ⟨rfl, b⟩; clear IC; have S21 : Hid (w12.heap.size ≤ w13.heap.size) := hide b.size; have K := hide (show Below w.heap.size w w13 ∧ Blk w13 w.heap.size [.int .i64 sn, .slice da1 dl1 dc1] ∧ Blk w13 (w.heap.size + 1) [.string p, .int .i64 nb, .int .i64 le, .int .i64 mo, .int .i64 ne, .slice va1 vl1 vc1] ∧ AbIs w13 lo8 hi9 a6 ((tkL sn zs ⟨p, nb, le, mo, ne, ys⟩ sl).length) c7 (tkL sn zs ⟨p, nb, le, mo, ne, ys⟩ sl) ∧ Blk w13 X5 [.int .i64 sn, .slice a6 ((tkL sn zs ⟨p, nb, le, mo, ne, ys⟩ sl).length) c7] ∧ AbIs w13 w4.heap.size w5.heap.size (some ⟨g10, 0, none⟩) dl1 dl1 zs ∧ Blk w13 X11 [.int .i64 sn, .slice (some ⟨g10, 0, none⟩) dl1 dl1] ∧ LdOwn w13 w6.heap.size (some ⟨g12, 0, none⟩) vl1 vl1 ys ∧ Blk w13 X13 [.string p, .int .i64 nb, .int .i64 le, .int .i64 mo, .int .i64 ne, .slice (some ⟨g12, 0, none⟩) vl1 vl1] ∧ AbIs w13 w8.heap.size w9.heap.size a14 ((tkL sn zs ⟨p, nb, le, mo, ne, ys⟩ sl).length) c15 (tkL sn zs ⟨p, nb, le, mo, ne, ys⟩ sl) ∧ Blk w13 X16 [.int .i64 sn, .slice a14 ((tkL sn zs ⟨p, nb, le, mo, ne, ys⟩ sl).length) c15] from by first | exact (unhide KEPT) _ _ (unhide K) b | exact (unhide KEPT) _ _ ((unhide KEPT) _ _ (unhide K) (bel0d 1)) b); clear mQXx00 mQXx01 mPd0 mPd1; have mQXx00 : w13.cell? ⟨X11, 0, none⟩ = some (.int .i64 sn) := (unhide K).2.2.2.2.2.2.1.c 0 (by simp); have mQXx01 : w13.cell? ⟨X11, 1, none⟩ = some (.slice (some ⟨g10, 0, none⟩) dl1 dl1) := (unhide K).2.2.2.2.2.2.1.c 1 (by simp); have mPd0 : w13.cell? ⟨w.heap.size, 0, none⟩ = some (.int .i64 sn) := (unhide K).2.1.c 0 (by simp); have mPd1 : w13.cell? ⟨w.heap.size, 1, none⟩ = some (.slice da1 dl1 dc1) := (unhide K).2.1.c 1 (by simp); clear b)))
  clear mQXx00 mQXx01 mPd0 mPd1
  have mPd0 : w13.cell? ⟨w.heap.size, 0, none⟩ = some (.int .i64 sn) := (unhide K).2.1.c 0 (by simp)
  have mPd1 : w13.cell? ⟨w.heap.size, 1, none⟩ = some (.slice da1 dl1 dc1) := (unhide K).2.1.c 1 (by simp)
  have mPv0 : w13.cell? ⟨w.heap.size + 1, 0, none⟩ = some (.string p) := (unhide K).2.2.1.c 0 (by simp)
  have mPv1 : w13.cell? ⟨w.heap.size + 1, 1, none⟩ = some (.int .i64 nb) := (unhide K).2.2.1.c 1 (by simp)
  have mPv2 : w13.cell? ⟨w.heap.size + 1, 2, none⟩ = some (.int .i64 le) := (unhide K).2.2.1.c 2 (by simp)
  have mPv3 : w13.cell? ⟨w.heap.size + 1, 3, none⟩ = some (.int .i64 mo) := (unhide K).2.2.1.c 3 (by simp)
  have mPv4 : w13.cell? ⟨w.heap.size + 1, 4, none⟩ = some (.int .i64 ne) := (unhide K).2.2.1.c 4 (by simp)
  have mPv5 : w13.cell? ⟨w.heap.size + 1, 5, none⟩ = some (.slice va1 vl1 vc1) := (unhide K).2.2.1.c 5 (by simp)
  have mQW00 : w13.cell? ⟨X5, 0, none⟩ = some (.int .i64 sn) := (unhide K).2.2.2.2.1.c 0 (by simp)
  have mQW01 : w13.cell? ⟨X5, 1, none⟩ = some (.slice a6 ((tkL sn zs ⟨p, nb, le, mo, ne, ys⟩ sl).length) c7) := (unhide K).2.2.2.2.1.c 1 (by simp)
  have mQXx00 : w13.cell? ⟨X11, 0, none⟩ = some (.int .i64 sn) := (unhide K).2.2.2.2.2.2.1.c 0 (by simp)
  have mQXx01 : w13.cell? ⟨X11, 1, none⟩ = some (.slice (some ⟨g10, 0, none⟩) dl1 dl1) := (unhide K).2.2.2.2.2.2.1.c 1 (by simp)
  have mQXx10 : w13.cell? ⟨X13, 0, none⟩ = some (.string p) := (unhide K).2.2.2.2.2.2.2.2.1.c 0 (by simp)
  have mQXx11 : w13.cell? ⟨X13, 1, none⟩ = some (.int .i64 nb) := (unhide K).2.2.2.2.2.2.2.2.1.c 1 (by simp)
  have mQXx12 : w13.cell? ⟨X13, 2, none⟩ = some (.int .i64 le) := (unhide K).2.2.2.2.2.2.2.2.1.c 2 (by simp)
  have mQXx13 : w13.cell? ⟨X13, 3, none⟩ = some (.int .i64 mo) := (unhide K).2.2.2.2.2.2.2.2.1.c 3 (by simp)
  have mQXx14 : w13.cell? ⟨X13, 4, none⟩ = some (.int .i64 ne) := (unhide K).2.2.2.2.2.2.2.2.1.c 4 (by simp)
  have mQXx15 : w13.cell? ⟨X13, 5, none⟩ = some (.slice (some ⟨g12, 0, none⟩) vl1 vl1) := (unhide K).2.2.2.2.2.2.2.2.1.c 5 (by simp)
  have mQG00 : w13.cell? ⟨X16, 0, none⟩ = some (.int .i64 sn) := (unhide K).2.2.2.2.2.2.2.2.2.2.c 0 (by simp)
  have mQG01 : w13.cell? ⟨X16, 1, none⟩ = some (.slice a14 ((tkL sn zs ⟨p, nb, le, mo, ne, ys⟩ sl).length) c15) := (unhide K).2.2.2.2.2.2.2.2.2.2.c 1 (by simp)
  go_wp2_with fail
  clear mPd0 mPd1 mPv0 mPv1 mPv2 mPv3 mPv4 mPv5 mQW00 mQW01 mQXx00 mQXx01 mQXx10 mQXx11 mQXx12 mQXx13 mQXx14 mQXx15 mQG00 mQG01
  have mQXx10 : w13.cell? ⟨X13, 0, none⟩ = some (.string p) := (unhide K).2.2.2.2.2.2.2.2.1.c 0 (by simp)
  have mQXx11 : w13.cell? ⟨X13, 1, none⟩ = some (.int .i64 nb) := (unhide K).2.2.2.2.2.2.2.2.1.c 1 (by simp)
  have mQXx12 : w13.cell? ⟨X13, 2, none⟩ = some (.int .i64 le) := (unhide K).2.2.2.2.2.2.2.2.1.c 2 (by simp)
  have mQXx13 : w13.cell? ⟨X13, 3, none⟩ = some (.int .i64 mo) := (unhide K).2.2.2.2.2.2.2.2.1.c 3 (by simp)
  have mQXx14 : w13.cell? ⟨X13, 4, none⟩ = some (.int .i64 ne) := (unhide K).2.2.2.2.2.2.2.2.1.c 4 (by simp)
  have mQXx15 : w13.cell? ⟨X13, 5, none⟩ = some (.slice (some ⟨g12, 0, none⟩) vl1 vl1) := (unhide K).2.2.2.2.2.2.2.2.1.c 5 (by simp)
  have mPv0 : w13.cell? ⟨w.heap.size + 1, 0, none⟩ = some (.string p) := (unhide K).2.2.1.c 0 (by simp)
  have mPv1 : w13.cell? ⟨w.heap.size + 1, 1, none⟩ = some (.int .i64 nb) := (unhide K).2.2.1.c 1 (by simp)
  have mPv2 : w13.cell? ⟨w.heap.size + 1, 2, none⟩ = some (.int .i64 le) := (unhide K).2.2.1.c 2 (by simp)
  have mPv3 : w13.cell? ⟨w.heap.size + 1, 3, none⟩ = some (.int .i64 mo) := (unhide K).2.2.1.c 3 (by simp)
  have mPv4 : w13.cell? ⟨w.heap.size + 1, 4, none⟩ = some (.int .i64 ne) := (unhide K).2.2.1.c 4 (by simp)
  have mPv5 : w13.cell? ⟨w.heap.size + 1, 5, none⟩ = some (.slice va1 vl1 vc1) := (unhide K).2.2.1.c 5 (by simp)
  go_region_held3 (fun w' => w'.cell? ⟨X13, 0, none⟩ = some (.string p) ∧ w'.cell? ⟨X13, 1, none⟩ = some (.int .i64 nb) ∧ w'.cell? ⟨X13, 2, none⟩ = some (.int .i64 le) ∧ w'.cell? ⟨X13, 3, none⟩ = some (.int .i64 mo) ∧ w'.cell? ⟨X13, 4, none⟩ = some (.int .i64 ne) ∧ w'.cell? ⟨X13, 5, none⟩ = some (.slice (some ⟨g12, 0, none⟩) vl1 vl1) ∧ w'.cell? ⟨w.heap.size + 1, 0, none⟩ = some (.string p) ∧ w'.cell? ⟨w.heap.size + 1, 1, none⟩ = some (.int .i64 nb) ∧ w'.cell? ⟨w.heap.size + 1, 2, none⟩ = some (.int .i64 le) ∧ w'.cell? ⟨w.heap.size + 1, 3, none⟩ = some (.int .i64 mo) ∧ w'.cell? ⟨w.heap.size + 1, 4, none⟩ = some (.int .i64 ne) ∧ w'.cell? ⟨w.heap.size + 1, 5, none⟩ = some (.slice va1 vl1 vc1)) (go_keep)
    ((first
      | (go_at_call 19; refine (toLoad18_own _ _ _ _ _ _ _ _ _ _ (by first | exact (unhide Rv).below (unhide K).1 | exact ((unhide Rv).below (unhide K).1).below (bel0d 1)) hv1).mono ?_; rintro x w14 ⟨⟨e18, rfl, oc⟩, b⟩; have IC := hide oc.read; clear oc; have S22 : Hid (w13.heap.size ≤ w14.heap.size) := hide b.size; have K := hide (show Below w.heap.size w w14 ∧ Blk w14 w.heap.size [.int .i64 sn, .slice da1 dl1 dc1] ∧ Blk w14 (w.heap.size + 1) [.string p, .int .i64 nb, .int .i64 le, .int .i64 mo, .int .i64 ne, .slice va1 vl1 vc1] ∧ AbIs w14 lo8 hi9 a6 ((tkL sn zs ⟨p, nb, le, mo, ne, ys⟩ sl).length) c7 (tkL sn zs ⟨p, nb, le, mo, ne, ys⟩ sl) ∧ Blk w14 X5 [.int .i64 sn, .slice a6 ((tkL sn zs ⟨p, nb, le, mo, ne, ys⟩ sl).length) c7] ∧ AbIs w14 w4.heap.size w5.heap.size (some ⟨g10, 0, none⟩) dl1 dl1 zs ∧ Blk w14 X11 [.int .i64 sn, .slice (some ⟨g10, 0, none⟩) dl1 dl1] ∧ LdOwn w14 w6.heap.size (some ⟨g12, 0, none⟩) vl1 vl1 ys ∧ Blk w14 X13 [.string p, .int .i64 nb, .int .i64 le, .int .i64 mo, .int .i64 ne, .slice (some ⟨g12, 0, none⟩) vl1 vl1] ∧ AbIs w14 w8.heap.size w9.heap.size a14 ((tkL sn zs ⟨p, nb, le, mo, ne, ys⟩ sl).length) c15 (tkL sn zs ⟨p, nb, le, mo, ne, ys⟩ sl) ∧ Blk w14 X16 [.int .i64 sn, .slice a14 ((tkL sn zs ⟨p, nb, le, mo, ne, ys⟩ sl).length) c15] from by first | exact (unhide KEPT) _ _ (unhide K) b | exact (unhide KEPT) _ _ ((unhide KEPT) _ _ (unhide K) (bel0d 1)) b); clear mQXx10 mQXx11 mQXx12 mQXx13 mQXx14 mQXx15 mPv0 mPv1 mPv2 mPv3 mPv4 mPv5; have mQXx10 : w14.cell? ⟨X13, 0, none⟩ = some (.string p) := (unhide K).2.2.2.2.2.2.2.2.1.c 0 (by simp); have mQXx11 : w14.cell? ⟨X13, 1, none⟩ = some (.int .i64 nb) := (unhide K).2.2.2.2.2.2.2.2.1.c 1 (by simp); have mQXx12 : w14.cell? ⟨X13, 2, none⟩ = some (.int .i64 le) := (unhide K).2.2.2.2.2.2.2.2.1.c 2 (by simp); have mQXx13 : w14.cell? ⟨X13, 3, none⟩ = some (.int .i64 mo) := (unhide K).2.2.2.2.2.2.2.2.1.c 3 (by simp); have mQXx14 : w14.cell? ⟨X13, 4, none⟩ = some (.int .i64 ne) := (unhide K).2.2.2.2.2.2.2.2.1.c 4 (by simp); have mQXx15 : w14.cell? ⟨X13, 5, none⟩ = some (.slice (some ⟨g12, 0, none⟩) vl1 vl1) := (unhide K).2.2.2.2.2.2.2.2.1.c 5 (by simp); have mPv0 : w14.cell? ⟨w.heap.size + 1, 0, none⟩ = some (.string p) := (unhide K).2.2.1.c 0 (by simp); have mPv1 : w14.cell? ⟨w.heap.size + 1, 1, none⟩ = some (.int .i64 nb) := (unhide K).2.2.1.c 1 (by simp); have mPv2 : w14.cell? ⟨w.heap.size + 1, 2, none⟩ = some (.int .i64 le) := (unhide K).2.2.1.c 2 (by simp); have mPv3 : w14.cell? ⟨w.heap.size + 1, 3, none⟩ = some (.int .i64 mo) := (unhide K).2.2.1.c 3 (by simp); have mPv4 : w14.cell? ⟨w.heap.size + 1, 4, none⟩ = some (.int .i64 ne) := (unhide K).2.2.1.c 4 (by simp); have mPv5 : w14.cell? ⟨w.heap.size + 1, 5, none⟩ = some (.slice va1 vl1 vc1) := (unhide K).2.2.1.c 5 (by simp); clear b)
      | (go_at_call 21; refine (eqLoad18_same _ _ _ _ _ _ _ _ _ _ _ _ (by first | exact (unhide K).2.2.2.2.2.2.2.1.read | exact (unhide K).2.2.2.2.2.2.2.1.read.below (bel0d 1)) (by first | exact unhide IC | exact (unhide IC).below (bel0d 1))).mono ?_; rintro x w15 ⟨rfl, b⟩; clear IC; have S23 : Hid (w14.heap.size ≤ w15.heap.size) := hide b.size; have K := hide (show Below w.heap.size w w15 ∧ Blk w15 w.heap.size [.int .i64 sn, .slice da1 dl1 dc1] ∧ Blk w15 (w.heap.size + 1) [.string p, .int .i64 nb, .int .i64 le, .int .i64 mo, .int .i64 ne, .slice va1 vl1 vc1] ∧ AbIs w15 lo8 hi9 a6 ((tkL sn zs ⟨p, nb, le, mo, ne, ys⟩ sl).length) c7 (tkL sn zs ⟨p, nb, le, mo, ne, ys⟩ sl) ∧ Blk w15 X5 [.int .i64 sn, .slice a6 ((tkL sn zs ⟨p, nb, le, mo, ne, ys⟩ sl).length) c7] ∧ AbIs w15 w4.heap.size w5.heap.size (some ⟨g10, 0, none⟩) dl1 dl1 zs ∧ Blk w15 X11 [.int .i64 sn, .slice (some ⟨g10, 0, none⟩) dl1 dl1] ∧ LdOwn w15 w6.heap.size (some ⟨g12, 0, none⟩) vl1 vl1 ys ∧ Blk w15 X13 [.string p, .int .i64 nb, .int .i64 le, .int .i64 mo, .int .i64 ne, .slice (some ⟨g12, 0, none⟩) vl1 vl1] ∧ AbIs w15 w8.heap.size w9.heap.size a14 ((tkL sn zs ⟨p, nb, le, mo, ne, ys⟩ sl).length) c15 (tkL sn zs ⟨p, nb, le, mo, ne, ys⟩ sl) ∧ Blk w15 X16 [.int .i64 sn, .slice a14 ((tkL sn zs ⟨p, nb, le, mo, ne, ys⟩ sl).length) c15] from by first | exact (unhide KEPT) _ _ (unhide K) b | exact (unhide KEPT) _ _ ((unhide KEPT) _ _ (unhide K) (bel0d 1)) b); clear mQXx10 mQXx11 mQXx12 mQXx13 mQXx14 mQXx15 mPv0 mPv1 mPv2 mPv3 mPv4 mPv5; have mQXx10 : w15.cell? ⟨X13, 0, none⟩ = some (.string p) := (unhide K).2.2.2.2.2.2.2.2.1.c 0 (by simp); have mQXx11 : w15.cell? ⟨X13, 1, none⟩ = some (.int .i64 nb) := (unhide K).2.2.2.2.2.2.2.2.1.c 1 (by simp); have mQXx12 : w15.cell? ⟨X13, 2, none⟩ = some (.int .i64 le) := (unhide K).2.2.2.2.2.2.2.2.1.c 2 (by simp); have mQXx13 : w15.cell? ⟨X13, 3, none⟩ = some (.int .i64 mo) := (unhide K).2.2.2.2.2.2.2.2.1.c 3 (by simp); have mQXx14 : w15.cell? ⟨X13, 4, none⟩ = some (.int .i64 ne) := (unhide K).2.2.2.2.2.2.2.2.1.c 4 (by simp); have mQXx15 : w15.cell? ⟨X13, 5, none⟩ = some (.slice (some ⟨g12, 0, none⟩) vl1 vl1) := (unhide K).2.2.2.2.2.2.2.2.1.c 5 (by simp); have mPv0 : w15.cell? ⟨w.heap.size + 1, 0, none⟩ = some (.string p) := (unhide K).2.2.1.c 0 (by simp); have mPv1 : w15.cell? ⟨w.heap.size + 1, 1, none⟩ = some (.int .i64 nb) := (unhide K).2.2.1.c 1 (by simp); have mPv2 : w15.cell? ⟨w.heap.size + 1, 2, none⟩ = some (.int .i64 le) := (unhide K).2.2.1.c 2 (by simp); have mPv3 : w15.cell? ⟨w.heap.size + 1, 3, none⟩ = some (.int .i64 mo) := (unhide K).2.2.1.c 3 (by simp); have mPv4 : w15.cell? ⟨w.heap.size + 1, 4, none⟩ = some (.int .i64 ne) := (unhide K).2.2.1.c 4 (by simp); have mPv5 : w15.cell? ⟨w.heap.size + 1, 5, none⟩ = some (.slice va1 vl1 vc1) := (unhide K).2.2.1.c 5 (by simp); clear b)))
  clear mQXx10 mQXx11 mQXx12 mQXx13 mQXx14 mQXx15 mPv0 mPv1 mPv2 mPv3 mPv4 mPv5
  have mPd0 : w15.cell? ⟨w.heap.size, 0, none⟩ = some (.int .i64 sn) := (unhide K).2.1.c 0 (by simp)
  have mPd1 : w15.cell? ⟨w.heap.size, 1, none⟩ = some (.slice da1 dl1 dc1) := (unhide K).2.1.c 1 (by simp)
  have mPv0 : w15.cell? ⟨w.heap.size + 1, 0, none⟩ = some (.string p) := (unhide K).2.2.1.c 0 (by simp)
  have mPv1 : w15.cell? ⟨w.heap.size + 1, 1, none⟩ = some (.int .i64 nb) := (unhide K).2.2.1.c 1 (by simp)
  have mPv2 : w15.cell? ⟨w.heap.size + 1, 2, none⟩ = some (.int .i64 le) := (unhide K).2.2.1.c 2 (by simp)
  have mPv3 : w15.cell? ⟨w.heap.size + 1, 3, none⟩ = some (.int .i64 mo) := (unhide K).2.2.1.c 3 (by simp)
  have mPv4 : w15.cell? ⟨w.heap.size + 1, 4, none⟩ = some (.int .i64 ne) := (unhide K).2.2.1.c 4 (by simp)
  have mPv5 : w15.cell? ⟨w.heap.size + 1, 5, none⟩ = some (.slice va1 vl1 vc1) := (unhide K).2.2.1.c 5 (by simp)
  have mQW00 : w15.cell? ⟨X5, 0, none⟩ = some (.int .i64 sn) := (unhide K).2.2.2.2.1.c 0 (by simp)
  have mQW01 : w15.cell? ⟨X5, 1, none⟩ = some (.slice a6 ((tkL sn zs ⟨p, nb, le, mo, ne, ys⟩ sl).length) c7) := (unhide K).2.2.2.2.1.c 1 (by simp)
  have mQXx00 : w15.cell? ⟨X11, 0, none⟩ = some (.int .i64 sn) := (unhide K).2.2.2.2.2.2.1.c 0 (by simp)
  have mQXx01 : w15.cell? ⟨X11, 1, none⟩ = some (.slice (some ⟨g10, 0, none⟩) dl1 dl1) := (unhide K).2.2.2.2.2.2.1.c 1 (by simp)
  have mQXx10 : w15.cell? ⟨X13, 0, none⟩ = some (.string p) := (unhide K).2.2.2.2.2.2.2.2.1.c 0 (by simp)
  have mQXx11 : w15.cell? ⟨X13, 1, none⟩ = some (.int .i64 nb) := (unhide K).2.2.2.2.2.2.2.2.1.c 1 (by simp)
  have mQXx12 : w15.cell? ⟨X13, 2, none⟩ = some (.int .i64 le) := (unhide K).2.2.2.2.2.2.2.2.1.c 2 (by simp)
  have mQXx13 : w15.cell? ⟨X13, 3, none⟩ = some (.int .i64 mo) := (unhide K).2.2.2.2.2.2.2.2.1.c 3 (by simp)
  have mQXx14 : w15.cell? ⟨X13, 4, none⟩ = some (.int .i64 ne) := (unhide K).2.2.2.2.2.2.2.2.1.c 4 (by simp)
  have mQXx15 : w15.cell? ⟨X13, 5, none⟩ = some (.slice (some ⟨g12, 0, none⟩) vl1 vl1) := (unhide K).2.2.2.2.2.2.2.2.1.c 5 (by simp)
  have mQG00 : w15.cell? ⟨X16, 0, none⟩ = some (.int .i64 sn) := (unhide K).2.2.2.2.2.2.2.2.2.2.c 0 (by simp)
  have mQG01 : w15.cell? ⟨X16, 1, none⟩ = some (.slice a14 ((tkL sn zs ⟨p, nb, le, mo, ne, ys⟩ sl).length) c15) := (unhide K).2.2.2.2.2.2.2.2.2.2.c 1 (by simp)
  go_wp2_with fail
  clear mPd0 mPd1 mPv0 mPv1 mPv2 mPv3 mPv4 mPv5 mQW00 mQW01 mQXx00 mQXx01 mQXx10 mQXx11 mQXx12 mQXx13 mQXx14 mQXx15 mQG00 mQG01
  refine (markAboard_own _ _ _ _ _ 1 _ _ _ (unhide K).2.2.2.2.2.1 hd1 (by omega) (by omega)).mono ?_
  rintro x w16 ⟨rfl, om, on⟩
  have kb16 := kZ_bd hd1 1
  have S24 : Hid (w15.heap.size ≤ w16.heap.size) := hide on.size
  have K : Hid (Below w.heap.size w w16 ∧ Blk w16 w.heap.size [.int .i64 sn, .slice da1 dl1 dc1] ∧ Blk w16 (w.heap.size + 1) [.string p, .int .i64 nb, .int .i64 le, .int .i64 mo, .int .i64 ne, .slice va1 vl1 vc1] ∧ AbIs w16 lo8 hi9 a6 ((tkL sn zs ⟨p, nb, le, mo, ne, ys⟩ sl).length) c7 (tkL sn zs ⟨p, nb, le, mo, ne, ys⟩ sl) ∧ Blk w16 X5 [.int .i64 sn, .slice a6 ((tkL sn zs ⟨p, nb, le, mo, ne, ys⟩ sl).length) c7] ∧ Blk w16 X11 [.int .i64 sn, .slice (some ⟨g10, 0, none⟩) dl1 dl1] ∧ LdOwn w16 w6.heap.size (some ⟨g12, 0, none⟩) vl1 vl1 ys ∧ Blk w16 X13 [.string p, .int .i64 nb, .int .i64 le, .int .i64 mo, .int .i64 ne, .slice (some ⟨g12, 0, none⟩) vl1 vl1] ∧ AbIs w16 w8.heap.size w9.heap.size a14 ((tkL sn zs ⟨p, nb, le, mo, ne, ys⟩ sl).length) c15 (tkL sn zs ⟨p, nb, le, mo, ne, ys⟩ sl) ∧ Blk w16 X16 [.int .i64 sn, .slice a14 ((tkL sn zs ⟨p, nb, le, mo, ne, ys⟩ sl).length) c15]) := hide ⟨below_only (unhide K).1 on (by have s0 := unhide S0; have s1 := unhide S1; have s2 := unhide S2; have s3 := unhide S3; have s4 := unhide S4; have s5 := unhide S5; have s6 := unhide S6; have s7 := unhide S7; have s8 := unhide S8; have s9 := unhide S9; have s10 := unhide S10; have s11 := unhide S11; have s12 := unhide S12; have s13 := unhide S13; have s14 := unhide S14; have s15 := unhide S15; have s16 := unhide S16; have s17 := unhide S17; have s18 := unhide S18; have s19 := unhide S19; have s20 := unhide S20; have s21 := unhide S21; have s22 := unhide S22; have s23 := unhide S23; have s24 := unhide S24; omega) (Nat.le_refl _), (unhide K).2.1.only on (by have s0 := unhide S0; have s1 := unhide S1; have s2 := unhide S2; have s3 := unhide S3; have s4 := unhide S4; have s5 := unhide S5; have s6 := unhide S6; have s7 := unhide S7; have s8 := unhide S8; have s9 := unhide S9; have s10 := unhide S10; have s11 := unhide S11; have s12 := unhide S12; have s13 := unhide S13; have s14 := unhide S14; have s15 := unhide S15; have s16 := unhide S16; have s17 := unhide S17; have s18 := unhide S18; have s19 := unhide S19; have s20 := unhide S20; have s21 := unhide S21; have s22 := unhide S22; have s23 := unhide S23; have s24 := unhide S24; omega), (unhide K).2.2.1.only on (by have s0 := unhide S0; have s1 := unhide S1; have s2 := unhide S2; have s3 := unhide S3; have s4 := unhide S4; have s5 := unhide S5; have s6 := unhide S6; have s7 := unhide S7; have s8 := unhide S8; have s9 := unhide S9; have s10 := unhide S10; have s11 := unhide S11; have s12 := unhide S12; have s13 := unhide S13; have s14 := unhide S14; have s15 := unhide S15; have s16 := unhide S16; have s17 := unhide S17; have s18 := unhide S18; have s19 := unhide S19; have s20 := unhide S20; have s21 := unhide S21; have s22 := unhide S22; have s23 := unhide S23; have s24 := unhide S24; omega), (unhide K).2.2.2.1.only on (by have s0 := unhide S0; have s1 := unhide S1; have s2 := unhide S2; have s3 := unhide S3; have s4 := unhide S4; have s5 := unhide S5; have s6 := unhide S6; have s7 := unhide S7; have s8 := unhide S8; have s9 := unhide S9; have s10 := unhide S10; have s11 := unhide S11; have s12 := unhide S12; have s13 := unhide S13; have s14 := unhide S14; have s15 := unhide S15; have s16 := unhide S16; have s17 := unhide S17; have s18 := unhide S18; have s19 := unhide S19; have s20 := unhide S20; have s21 := unhide S21; have s22 := unhide S22; have s23 := unhide S23; have s24 := unhide S24; omega), (unhide K).2.2.2.2.1.only on (by have s0 := unhide S0; have s1 := unhide S1; have s2 := unhide S2; have s3 := unhide S3; have s4 := unhide S4; have s5 := unhide S5; have s6 := unhide S6; have s7 := unhide S7; have s8 := unhide S8; have s9 := unhide S9; have s10 := unhide S10; have s11 := unhide S11; have s12 := unhide S12; have s13 := unhide S13; have s14 := unhide S14; have s15 := unhide S15; have s16 := unhide S16; have s17 := unhide S17; have s18 := unhide S18; have s19 := unhide S19; have s20 := unhide S20; have s21 := unhide S21; have s22 := unhide S22; have s23 := unhide S23; have s24 := unhide S24; omega), (unhide K).2.2.2.2.2.2.1.only on (by have s0 := unhide S0; have s1 := unhide S1; have s2 := unhide S2; have s3 := unhide S3; have s4 := unhide S4; have s5 := unhide S5; have s6 := unhide S6; have s7 := unhide S7; have s8 := unhide S8; have s9 := unhide S9; have s10 := unhide S10; have s11 := unhide S11; have s12 := unhide S12; have s13 := unhide S13; have s14 := unhide S14; have s15 := unhide S15; have s16 := unhide S16; have s17 := unhide S17; have s18 := unhide S18; have s19 := unhide S19; have s20 := unhide S20; have s21 := unhide S21; have s22 := unhide S22; have s23 := unhide S23; have s24 := unhide S24; omega), (unhide K).2.2.2.2.2.2.2.1.only on (unhide LXx1) (by have s0 := unhide S0; have s1 := unhide S1; have s2 := unhide S2; have s3 := unhide S3; have s4 := unhide S4; have s5 := unhide S5; have s6 := unhide S6; have s7 := unhide S7; have s8 := unhide S8; have s9 := unhide S9; have s10 := unhide S10; have s11 := unhide S11; have s12 := unhide S12; have s13 := unhide S13; have s14 := unhide S14; have s15 := unhide S15; have s16 := unhide S16; have s17 := unhide S17; have s18 := unhide S18; have s19 := unhide S19; have s20 := unhide S20; have s21 := unhide S21; have s22 := unhide S22; have s23 := unhide S23; have s24 := unhide S24; omega), (unhide K).2.2.2.2.2.2.2.2.1.only on (by have s0 := unhide S0; have s1 := unhide S1; have s2 := unhide S2; have s3 := unhide S3; have s4 := unhide S4; have s5 := unhide S5; have s6 := unhide S6; have s7 := unhide S7; have s8 := unhide S8; have s9 := unhide S9; have s10 := unhide S10; have s11 := unhide S11; have s12 := unhide S12; have s13 := unhide S13; have s14 := unhide S14; have s15 := unhide S15; have s16 := unhide S16; have s17 := unhide S17; have s18 := unhide S18; have s19 := unhide S19; have s20 := unhide S20; have s21 := unhide S21; have s22 := unhide S22; have s23 := unhide S23; have s24 := unhide S24; omega), (unhide K).2.2.2.2.2.2.2.2.2.1.only on (by have s0 := unhide S0; have s1 := unhide S1; have s2 := unhide S2; have s3 := unhide S3; have s4 := unhide S4; have s5 := unhide S5; have s6 := unhide S6; have s7 := unhide S7; have s8 := unhide S8; have s9 := unhide S9; have s10 := unhide S10; have s11 := unhide S11; have s12 := unhide S12; have s13 := unhide S13; have s14 := unhide S14; have s15 := unhide S15; have s16 := unhide S16; have s17 := unhide S17; have s18 := unhide S18; have s19 := unhide S19; have s20 := unhide S20; have s21 := unhide S21; have s22 := unhide S22; have s23 := unhide S23; have s24 := unhide S24; omega), (unhide K).2.2.2.2.2.2.2.2.2.2.only on (by have s0 := unhide S0; have s1 := unhide S1; have s2 := unhide S2; have s3 := unhide S3; have s4 := unhide S4; have s5 := unhide S5; have s6 := unhide S6; have s7 := unhide S7; have s8 := unhide S8; have s9 := unhide S9; have s10 := unhide S10; have s11 := unhide S11; have s12 := unhide S12; have s13 := unhide S13; have s14 := unhide S14; have s15 := unhide S15; have s16 := unhide S16; have s17 := unhide S17; have s18 := unhide S18; have s19 := unhide S19; have s20 := unhide S20; have s21 := unhide S21; have s22 := unhide S22; have s23 := unhide S23; have s24 := unhide S24; omega)⟩
  clear KEPT om on
  have KEPT : Hid (∀ W u3, (Below w.heap.size w W ∧ Blk W w.heap.size [.int .i64 sn, .slice da1 dl1 dc1] ∧ Blk W (w.heap.size + 1) [.string p, .int .i64 nb, .int .i64 le, .int .i64 mo, .int .i64 ne, .slice va1 vl1 vc1] ∧ AbIs W lo8 hi9 a6 ((tkL sn zs ⟨p, nb, le, mo, ne, ys⟩ sl).length) c7 (tkL sn zs ⟨p, nb, le, mo, ne, ys⟩ sl) ∧ Blk W X5 [.int .i64 sn, .slice a6 ((tkL sn zs ⟨p, nb, le, mo, ne, ys⟩ sl).length) c7] ∧ Blk W X11 [.int .i64 sn, .slice (some ⟨g10, 0, none⟩) dl1 dl1] ∧ LdOwn W w6.heap.size (some ⟨g12, 0, none⟩) vl1 vl1 ys ∧ Blk W X13 [.string p, .int .i64 nb, .int .i64 le, .int .i64 mo, .int .i64 ne, .slice (some ⟨g12, 0, none⟩) vl1 vl1] ∧ AbIs W w8.heap.size w9.heap.size a14 ((tkL sn zs ⟨p, nb, le, mo, ne, ys⟩ sl).length) c15 (tkL sn zs ⟨p, nb, le, mo, ne, ys⟩ sl) ∧ Blk W X16 [.int .i64 sn, .slice a14 ((tkL sn zs ⟨p, nb, le, mo, ne, ys⟩ sl).length) c15]) → Below W.heap.size W u3 → (Below w.heap.size w u3 ∧ Blk u3 w.heap.size [.int .i64 sn, .slice da1 dl1 dc1] ∧ Blk u3 (w.heap.size + 1) [.string p, .int .i64 nb, .int .i64 le, .int .i64 mo, .int .i64 ne, .slice va1 vl1 vc1] ∧ AbIs u3 lo8 hi9 a6 ((tkL sn zs ⟨p, nb, le, mo, ne, ys⟩ sl).length) c7 (tkL sn zs ⟨p, nb, le, mo, ne, ys⟩ sl) ∧ Blk u3 X5 [.int .i64 sn, .slice a6 ((tkL sn zs ⟨p, nb, le, mo, ne, ys⟩ sl).length) c7] ∧ Blk u3 X11 [.int .i64 sn, .slice (some ⟨g10, 0, none⟩) dl1 dl1] ∧ LdOwn u3 w6.heap.size (some ⟨g12, 0, none⟩) vl1 vl1 ys ∧ Blk u3 X13 [.string p, .int .i64 nb, .int .i64 le, .int .i64 mo, .int .i64 ne, .slice (some ⟨g12, 0, none⟩) vl1 vl1] ∧ AbIs u3 w8.heap.size w9.heap.size a14 ((tkL sn zs ⟨p, nb, le, mo, ne, ys⟩ sl).length) c15 (tkL sn zs ⟨p, nb, le, mo, ne, ys⟩ sl) ∧ Blk u3 X16 [.int .i64 sn, .slice a14 ((tkL sn zs ⟨p, nb, le, mo, ne, ys⟩ sl).length) c15])) := hide (fun W u3 h b => ⟨h.1.trans (b.mono h.1.size), h.2.1.below b, h.2.2.1.below b, h.2.2.2.1.below b, h.2.2.2.2.1.below b, h.2.2.2.2.2.1.below b, h.2.2.2.2.2.2.1.below b, h.2.2.2.2.2.2.2.1.below b, h.2.2.2.2.2.2.2.2.1.below b, h.2.2.2.2.2.2.2.2.2.below b⟩)
  have nk16 : ¬ (kZ zs 1 < 0) := by omega
  have mPd0 : w16.cell? ⟨w.heap.size, 0, none⟩ = some (.int .i64 sn) := (unhide K).2.1.c 0 (by simp)
  have mPd1 : w16.cell? ⟨w.heap.size, 1, none⟩ = some (.slice da1 dl1 dc1) := (unhide K).2.1.c 1 (by simp)
  have mPv0 : w16.cell? ⟨w.heap.size + 1, 0, none⟩ = some (.string p) := (unhide K).2.2.1.c 0 (by simp)
  have mPv1 : w16.cell? ⟨w.heap.size + 1, 1, none⟩ = some (.int .i64 nb) := (unhide K).2.2.1.c 1 (by simp)
  have mPv2 : w16.cell? ⟨w.heap.size + 1, 2, none⟩ = some (.int .i64 le) := (unhide K).2.2.1.c 2 (by simp)
  have mPv3 : w16.cell? ⟨w.heap.size + 1, 3, none⟩ = some (.int .i64 mo) := (unhide K).2.2.1.c 3 (by simp)
  have mPv4 : w16.cell? ⟨w.heap.size + 1, 4, none⟩ = some (.int .i64 ne) := (unhide K).2.2.1.c 4 (by simp)
  have mPv5 : w16.cell? ⟨w.heap.size + 1, 5, none⟩ = some (.slice va1 vl1 vc1) := (unhide K).2.2.1.c 5 (by simp)
  have mQW00 : w16.cell? ⟨X5, 0, none⟩ = some (.int .i64 sn) := (unhide K).2.2.2.2.1.c 0 (by simp)
  have mQW01 : w16.cell? ⟨X5, 1, none⟩ = some (.slice a6 ((tkL sn zs ⟨p, nb, le, mo, ne, ys⟩ sl).length) c7) := (unhide K).2.2.2.2.1.c 1 (by simp)
  have mQXx00 : w16.cell? ⟨X11, 0, none⟩ = some (.int .i64 sn) := (unhide K).2.2.2.2.2.1.c 0 (by simp)
  have mQXx01 : w16.cell? ⟨X11, 1, none⟩ = some (.slice (some ⟨g10, 0, none⟩) dl1 dl1) := (unhide K).2.2.2.2.2.1.c 1 (by simp)
  have mQXx10 : w16.cell? ⟨X13, 0, none⟩ = some (.string p) := (unhide K).2.2.2.2.2.2.2.1.c 0 (by simp)
  have mQXx11 : w16.cell? ⟨X13, 1, none⟩ = some (.int .i64 nb) := (unhide K).2.2.2.2.2.2.2.1.c 1 (by simp)
  have mQXx12 : w16.cell? ⟨X13, 2, none⟩ = some (.int .i64 le) := (unhide K).2.2.2.2.2.2.2.1.c 2 (by simp)
  have mQXx13 : w16.cell? ⟨X13, 3, none⟩ = some (.int .i64 mo) := (unhide K).2.2.2.2.2.2.2.1.c 3 (by simp)
  have mQXx14 : w16.cell? ⟨X13, 4, none⟩ = some (.int .i64 ne) := (unhide K).2.2.2.2.2.2.2.1.c 4 (by simp)
  have mQXx15 : w16.cell? ⟨X13, 5, none⟩ = some (.slice (some ⟨g12, 0, none⟩) vl1 vl1) := (unhide K).2.2.2.2.2.2.2.1.c 5 (by simp)
  have mQG00 : w16.cell? ⟨X16, 0, none⟩ = some (.int .i64 sn) := (unhide K).2.2.2.2.2.2.2.2.2.c 0 (by simp)
  have mQG01 : w16.cell? ⟨X16, 1, none⟩ = some (.slice a14 ((tkL sn zs ⟨p, nb, le, mo, ne, ys⟩ sl).length) c15) := (unhide K).2.2.2.2.2.2.2.2.2.c 1 (by simp)
  go_wp2_with fail
  clear mPd0 mPd1 mPv0 mPv1 mPv2 mPv3 mPv4 mPv5 mQW00 mQW01 mQXx00 mQXx01 mQXx10 mQXx11 mQXx12 mQXx13 mQXx14 mQXx15 mQG00 mQG01
  refine (markLoad18_own _ _ _ _ _ _ _ _ _ _ (kZ zs 1) _ (unhide K).2.2.2.2.2.2.1 (unhide Ev1) (hv1) (by omega) (by omega) _ _ (unhide LXx1) (by have zz := (unhide K).1.size; have s0 := unhide S0; have s1 := unhide S1; have s2 := unhide S2; have s3 := unhide S3; have s4 := unhide S4; have s5 := unhide S5; have s6 := unhide S6; have s7 := unhide S7; have s8 := unhide S8; have s9 := unhide S9; have s10 := unhide S10; have s11 := unhide S11; have s12 := unhide S12; have s13 := unhide S13; have s14 := unhide S14; have s15 := unhide S15; have s16 := unhide S16; have s17 := unhide S17; have s18 := unhide S18; have s19 := unhide S19; have s20 := unhide S20; have s21 := unhide S21; have s22 := unhide S22; have s23 := unhide S23; have s24 := unhide S24; omega)).mono ?_
  rintro x w17 ⟨rfl, om, on⟩
  have S25 : Hid (w16.heap.size ≤ w17.heap.size) := hide on.size
  have K : Hid (Below w.heap.size w w17 ∧ Blk w17 w.heap.size [.int .i64 sn, .slice da1 dl1 dc1] ∧ Blk w17 (w.heap.size + 1) [.string p, .int .i64 nb, .int .i64 le, .int .i64 mo, .int .i64 ne, .slice va1 vl1 vc1] ∧ AbIs w17 lo8 hi9 a6 ((tkL sn zs ⟨p, nb, le, mo, ne, ys⟩ sl).length) c7 (tkL sn zs ⟨p, nb, le, mo, ne, ys⟩ sl) ∧ Blk w17 X5 [.int .i64 sn, .slice a6 ((tkL sn zs ⟨p, nb, le, mo, ne, ys⟩ sl).length) c7] ∧ Blk w17 X11 [.int .i64 sn, .slice (some ⟨g10, 0, none⟩) dl1 dl1] ∧ Blk w17 X13 [.string p, .int .i64 nb, .int .i64 le, .int .i64 mo, .int .i64 ne, .slice (some ⟨g12, 0, none⟩) vl1 vl1] ∧ AbIs w17 w8.heap.size w9.heap.size a14 ((tkL sn zs ⟨p, nb, le, mo, ne, ys⟩ sl).length) c15 (tkL sn zs ⟨p, nb, le, mo, ne, ys⟩ sl) ∧ Blk w17 X16 [.int .i64 sn, .slice a14 ((tkL sn zs ⟨p, nb, le, mo, ne, ys⟩ sl).length) c15]) := hide ⟨below_only (unhide K).1 on (by have s0 := unhide S0; have s1 := unhide S1; have s2 := unhide S2; have s3 := unhide S3; have s4 := unhide S4; have s5 := unhide S5; have s6 := unhide S6; have s7 := unhide S7; have s8 := unhide S8; have s9 := unhide S9; have s10 := unhide S10; have s11 := unhide S11; have s12 := unhide S12; have s13 := unhide S13; have s14 := unhide S14; have s15 := unhide S15; have s16 := unhide S16; have s17 := unhide S17; have s18 := unhide S18; have s19 := unhide S19; have s20 := unhide S20; have s21 := unhide S21; have s22 := unhide S22; have s23 := unhide S23; have s24 := unhide S24; have s25 := unhide S25; omega) (Nat.le_refl _), (unhide K).2.1.only on (by have s0 := unhide S0; have s1 := unhide S1; have s2 := unhide S2; have s3 := unhide S3; have s4 := unhide S4; have s5 := unhide S5; have s6 := unhide S6; have s7 := unhide S7; have s8 := unhide S8; have s9 := unhide S9; have s10 := unhide S10; have s11 := unhide S11; have s12 := unhide S12; have s13 := unhide S13; have s14 := unhide S14; have s15 := unhide S15; have s16 := unhide S16; have s17 := unhide S17; have s18 := unhide S18; have s19 := unhide S19; have s20 := unhide S20; have s21 := unhide S21; have s22 := unhide S22; have s23 := unhide S23; have s24 := unhide S24; have s25 := unhide S25; omega), (unhide K).2.2.1.only on (by have s0 := unhide S0; have s1 := unhide S1; have s2 := unhide S2; have s3 := unhide S3; have s4 := unhide S4; have s5 := unhide S5; have s6 := unhide S6; have s7 := unhide S7; have s8 := unhide S8; have s9 := unhide S9; have s10 := unhide S10; have s11 := unhide S11; have s12 := unhide S12; have s13 := unhide S13; have s14 := unhide S14; have s15 := unhide S15; have s16 := unhide S16; have s17 := unhide S17; have s18 := unhide S18; have s19 := unhide S19; have s20 := unhide S20; have s21 := unhide S21; have s22 := unhide S22; have s23 := unhide S23; have s24 := unhide S24; have s25 := unhide S25; omega), (unhide K).2.2.2.1.only on (by have s0 := unhide S0; have s1 := unhide S1; have s2 := unhide S2; have s3 := unhide S3; have s4 := unhide S4; have s5 := unhide S5; have s6 := unhide S6; have s7 := unhide S7; have s8 := unhide S8; have s9 := unhide S9; have s10 := unhide S10; have s11 := unhide S11; have s12 := unhide S12; have s13 := unhide S13; have s14 := unhide S14; have s15 := unhide S15; have s16 := unhide S16; have s17 := unhide S17; have s18 := unhide S18; have s19 := unhide S19; have s20 := unhide S20; have s21 := unhide S21; have s22 := unhide S22; have s23 := unhide S23; have s24 := unhide S24; have s25 := unhide S25; omega), (unhide K).2.2.2.2.1.only on (by have s0 := unhide S0; have s1 := unhide S1; have s2 := unhide S2; have s3 := unhide S3; have s4 := unhide S4; have s5 := unhide S5; have s6 := unhide S6; have s7 := unhide S7; have s8 := unhide S8; have s9 := unhide S9; have s10 := unhide S10; have s11 := unhide S11; have s12 := unhide S12; have s13 := unhide S13; have s14 := unhide S14; have s15 := unhide S15; have s16 := unhide S16; have s17 := unhide S17; have s18 := unhide S18; have s19 := unhide S19; have s20 := unhide S20; have s21 := unhide S21; have s22 := unhide S22; have s23 := unhide S23; have s24 := unhide S24; have s25 := unhide S25; omega), (unhide K).2.2.2.2.2.1.only on (by have s0 := unhide S0; have s1 := unhide S1; have s2 := unhide S2; have s3 := unhide S3; have s4 := unhide S4; have s5 := unhide S5; have s6 := unhide S6; have s7 := unhide S7; have s8 := unhide S8; have s9 := unhide S9; have s10 := unhide S10; have s11 := unhide S11; have s12 := unhide S12; have s13 := unhide S13; have s14 := unhide S14; have s15 := unhide S15; have s16 := unhide S16; have s17 := unhide S17; have s18 := unhide S18; have s19 := unhide S19; have s20 := unhide S20; have s21 := unhide S21; have s22 := unhide S22; have s23 := unhide S23; have s24 := unhide S24; have s25 := unhide S25; omega), (unhide K).2.2.2.2.2.2.2.1.only on (by have s0 := unhide S0; have s1 := unhide S1; have s2 := unhide S2; have s3 := unhide S3; have s4 := unhide S4; have s5 := unhide S5; have s6 := unhide S6; have s7 := unhide S7; have s8 := unhide S8; have s9 := unhide S9; have s10 := unhide S10; have s11 := unhide S11; have s12 := unhide S12; have s13 := unhide S13; have s14 := unhide S14; have s15 := unhide S15; have s16 := unhide S16; have s17 := unhide S17; have s18 := unhide S18; have s19 := unhide S19; have s20 := unhide S20; have s21 := unhide S21; have s22 := unhide S22; have s23 := unhide S23; have s24 := unhide S24; have s25 := unhide S25; omega), (unhide K).2.2.2.2.2.2.2.2.1.only on (by have s0 := unhide S0; have s1 := unhide S1; have s2 := unhide S2; have s3 := unhide S3; have s4 := unhide S4; have s5 := unhide S5; have s6 := unhide S6; have s7 := unhide S7; have s8 := unhide S8; have s9 := unhide S9; have s10 := unhide S10; have s11 := unhide S11; have s12 := unhide S12; have s13 := unhide S13; have s14 := unhide S14; have s15 := unhide S15; have s16 := unhide S16; have s17 := unhide S17; have s18 := unhide S18; have s19 := unhide S19; have s20 := unhide S20; have s21 := unhide S21; have s22 := unhide S22; have s23 := unhide S23; have s24 := unhide S24; have s25 := unhide S25; omega), (unhide K).2.2.2.2.2.2.2.2.2.only on (by have s0 := unhide S0; have s1 := unhide S1; have s2 := unhide S2; have s3 := unhide S3; have s4 := unhide S4; have s5 := unhide S5; have s6 := unhide S6; have s7 := unhide S7; have s8 := unhide S8; have s9 := unhide S9; have s10 := unhide S10; have s11 := unhide S11; have s12 := unhide S12; have s13 := unhide S13; have s14 := unhide S14; have s15 := unhide S15; have s16 := unhide S16; have s17 := unhide S17; have s18 := unhide S18; have s19 := unhide S19; have s20 := unhide S20; have s21 := unhide S21; have s22 := unhide S22; have s23 := unhide S23; have s24 := unhide S24; have s25 := unhide S25; omega)⟩
  clear KEPT om on
  have KEPT : Hid (∀ W u3, (Below w.heap.size w W ∧ Blk W w.heap.size [.int .i64 sn, .slice da1 dl1 dc1] ∧ Blk W (w.heap.size + 1) [.string p, .int .i64 nb, .int .i64 le, .int .i64 mo, .int .i64 ne, .slice va1 vl1 vc1] ∧ AbIs W lo8 hi9 a6 ((tkL sn zs ⟨p, nb, le, mo, ne, ys⟩ sl).length) c7 (tkL sn zs ⟨p, nb, le, mo, ne, ys⟩ sl) ∧ Blk W X5 [.int .i64 sn, .slice a6 ((tkL sn zs ⟨p, nb, le, mo, ne, ys⟩ sl).length) c7] ∧ Blk W X11 [.int .i64 sn, .slice (some ⟨g10, 0, none⟩) dl1 dl1] ∧ Blk W X13 [.string p, .int .i64 nb, .int .i64 le, .int .i64 mo, .int .i64 ne, .slice (some ⟨g12, 0, none⟩) vl1 vl1] ∧ AbIs W w8.heap.size w9.heap.size a14 ((tkL sn zs ⟨p, nb, le, mo, ne, ys⟩ sl).length) c15 (tkL sn zs ⟨p, nb, le, mo, ne, ys⟩ sl) ∧ Blk W X16 [.int .i64 sn, .slice a14 ((tkL sn zs ⟨p, nb, le, mo, ne, ys⟩ sl).length) c15]) → Below W.heap.size W u3 → (Below w.heap.size w u3 ∧ Blk u3 w.heap.size [.int .i64 sn, .slice da1 dl1 dc1] ∧ Blk u3 (w.heap.size + 1) [.string p, .int .i64 nb, .int .i64 le, .int .i64 mo, .int .i64 ne, .slice va1 vl1 vc1] ∧ AbIs u3 lo8 hi9 a6 ((tkL sn zs ⟨p, nb, le, mo, ne, ys⟩ sl).length) c7 (tkL sn zs ⟨p, nb, le, mo, ne, ys⟩ sl) ∧ Blk u3 X5 [.int .i64 sn, .slice a6 ((tkL sn zs ⟨p, nb, le, mo, ne, ys⟩ sl).length) c7] ∧ Blk u3 X11 [.int .i64 sn, .slice (some ⟨g10, 0, none⟩) dl1 dl1] ∧ Blk u3 X13 [.string p, .int .i64 nb, .int .i64 le, .int .i64 mo, .int .i64 ne, .slice (some ⟨g12, 0, none⟩) vl1 vl1] ∧ AbIs u3 w8.heap.size w9.heap.size a14 ((tkL sn zs ⟨p, nb, le, mo, ne, ys⟩ sl).length) c15 (tkL sn zs ⟨p, nb, le, mo, ne, ys⟩ sl) ∧ Blk u3 X16 [.int .i64 sn, .slice a14 ((tkL sn zs ⟨p, nb, le, mo, ne, ys⟩ sl).length) c15])) := hide (fun W u3 h b => ⟨h.1.trans (b.mono h.1.size), h.2.1.below b, h.2.2.1.below b, h.2.2.2.1.below b, h.2.2.2.2.1.below b, h.2.2.2.2.2.1.below b, h.2.2.2.2.2.2.1.below b, h.2.2.2.2.2.2.2.1.below b, h.2.2.2.2.2.2.2.2.below b⟩)
  have nk17 : ¬ (kZ zs 1 + (vl1 : Int) < 0) := by omega
  have mPd0 : w17.cell? ⟨w.heap.size, 0, none⟩ = some (.int .i64 sn) := (unhide K).2.1.c 0 (by simp)
  have mPd1 : w17.cell? ⟨w.heap.size, 1, none⟩ = some (.slice da1 dl1 dc1) := (unhide K).2.1.c 1 (by simp)
  have mPv0 : w17.cell? ⟨w.heap.size + 1, 0, none⟩ = some (.string p) := (unhide K).2.2.1.c 0 (by simp)
  have mPv1 : w17.cell? ⟨w.heap.size + 1, 1, none⟩ = some (.int .i64 nb) := (unhide K).2.2.1.c 1 (by simp)
  have mPv2 : w17.cell? ⟨w.heap.size + 1, 2, none⟩ = some (.int .i64 le) := (unhide K).2.2.1.c 2 (by simp)
  have mPv3 : w17.cell? ⟨w.heap.size + 1, 3, none⟩ = some (.int .i64 mo) := (unhide K).2.2.1.c 3 (by simp)
  have mPv4 : w17.cell? ⟨w.heap.size + 1, 4, none⟩ = some (.int .i64 ne) := (unhide K).2.2.1.c 4 (by simp)
  have mPv5 : w17.cell? ⟨w.heap.size + 1, 5, none⟩ = some (.slice va1 vl1 vc1) := (unhide K).2.2.1.c 5 (by simp)
  have mQW00 : w17.cell? ⟨X5, 0, none⟩ = some (.int .i64 sn) := (unhide K).2.2.2.2.1.c 0 (by simp)
  have mQW01 : w17.cell? ⟨X5, 1, none⟩ = some (.slice a6 ((tkL sn zs ⟨p, nb, le, mo, ne, ys⟩ sl).length) c7) := (unhide K).2.2.2.2.1.c 1 (by simp)
  have mQXx00 : w17.cell? ⟨X11, 0, none⟩ = some (.int .i64 sn) := (unhide K).2.2.2.2.2.1.c 0 (by simp)
  have mQXx01 : w17.cell? ⟨X11, 1, none⟩ = some (.slice (some ⟨g10, 0, none⟩) dl1 dl1) := (unhide K).2.2.2.2.2.1.c 1 (by simp)
  have mQXx10 : w17.cell? ⟨X13, 0, none⟩ = some (.string p) := (unhide K).2.2.2.2.2.2.1.c 0 (by simp)
  have mQXx11 : w17.cell? ⟨X13, 1, none⟩ = some (.int .i64 nb) := (unhide K).2.2.2.2.2.2.1.c 1 (by simp)
  have mQXx12 : w17.cell? ⟨X13, 2, none⟩ = some (.int .i64 le) := (unhide K).2.2.2.2.2.2.1.c 2 (by simp)
  have mQXx13 : w17.cell? ⟨X13, 3, none⟩ = some (.int .i64 mo) := (unhide K).2.2.2.2.2.2.1.c 3 (by simp)
  have mQXx14 : w17.cell? ⟨X13, 4, none⟩ = some (.int .i64 ne) := (unhide K).2.2.2.2.2.2.1.c 4 (by simp)
  have mQXx15 : w17.cell? ⟨X13, 5, none⟩ = some (.slice (some ⟨g12, 0, none⟩) vl1 vl1) := (unhide K).2.2.2.2.2.2.1.c 5 (by simp)
  have mQG00 : w17.cell? ⟨X16, 0, none⟩ = some (.int .i64 sn) := (unhide K).2.2.2.2.2.2.2.2.c 0 (by simp)
  have mQG01 : w17.cell? ⟨X16, 1, none⟩ = some (.slice a14 ((tkL sn zs ⟨p, nb, le, mo, ne, ys⟩ sl).length) c15) := (unhide K).2.2.2.2.2.2.2.2.c 1 (by simp)
  go_wp2_with fail
  clear mPd0 mPd1 mPv0 mPv1 mPv2 mPv3 mPv4 mPv5 mQW00 mQW01 mQXx00 mQXx01 mQXx10 mQXx11 mQXx12 mQXx13 mQXx14 mQXx15 mQG00 mQG01
  refine (eqAboard_same _ _ _ _ _ _ _ _ (unhide K).2.2.2.2.2.2.2.1.read (unhide K).2.2.2.1.read).mono ?_
  rintro x w18 ⟨rfl, b⟩
  have S26 : Hid (w17.heap.size ≤ w18.heap.size) := hide b.size
  have K : Hid (Below w.heap.size w w18 ∧ Blk w18 w.heap.size [.int .i64 sn, .slice da1 dl1 dc1] ∧ Blk w18 (w.heap.size + 1) [.string p, .int .i64 nb, .int .i64 le, .int .i64 mo, .int .i64 ne, .slice va1 vl1 vc1] ∧ AbIs w18 lo8 hi9 a6 ((tkL sn zs ⟨p, nb, le, mo, ne, ys⟩ sl).length) c7 (tkL sn zs ⟨p, nb, le, mo, ne, ys⟩ sl) ∧ Blk w18 X5 [.int .i64 sn, .slice a6 ((tkL sn zs ⟨p, nb, le, mo, ne, ys⟩ sl).length) c7] ∧ Blk w18 X11 [.int .i64 sn, .slice (some ⟨g10, 0, none⟩) dl1 dl1] ∧ Blk w18 X13 [.string p, .int .i64 nb, .int .i64 le, .int .i64 mo, .int .i64 ne, .slice (some ⟨g12, 0, none⟩) vl1 vl1] ∧ AbIs w18 w8.heap.size w9.heap.size a14 ((tkL sn zs ⟨p, nb, le, mo, ne, ys⟩ sl).length) c15 (tkL sn zs ⟨p, nb, le, mo, ne, ys⟩ sl) ∧ Blk w18 X16 [.int .i64 sn, .slice a14 ((tkL sn zs ⟨p, nb, le, mo, ne, ys⟩ sl).length) c15]) := hide ((unhide KEPT) _ _ (unhide K) b)
  clear b
  have mPd0 : w18.cell? ⟨w.heap.size, 0, none⟩ = some (.int .i64 sn) := (unhide K).2.1.c 0 (by simp)
  have mPd1 : w18.cell? ⟨w.heap.size, 1, none⟩ = some (.slice da1 dl1 dc1) := (unhide K).2.1.c 1 (by simp)
  have mPv0 : w18.cell? ⟨w.heap.size + 1, 0, none⟩ = some (.string p) := (unhide K).2.2.1.c 0 (by simp)
  have mPv1 : w18.cell? ⟨w.heap.size + 1, 1, none⟩ = some (.int .i64 nb) := (unhide K).2.2.1.c 1 (by simp)
  have mPv2 : w18.cell? ⟨w.heap.size + 1, 2, none⟩ = some (.int .i64 le) := (unhide K).2.2.1.c 2 (by simp)
  have mPv3 : w18.cell? ⟨w.heap.size + 1, 3, none⟩ = some (.int .i64 mo) := (unhide K).2.2.1.c 3 (by simp)
  have mPv4 : w18.cell? ⟨w.heap.size + 1, 4, none⟩ = some (.int .i64 ne) := (unhide K).2.2.1.c 4 (by simp)
  have mPv5 : w18.cell? ⟨w.heap.size + 1, 5, none⟩ = some (.slice va1 vl1 vc1) := (unhide K).2.2.1.c 5 (by simp)
  have mQW00 : w18.cell? ⟨X5, 0, none⟩ = some (.int .i64 sn) := (unhide K).2.2.2.2.1.c 0 (by simp)
  have mQW01 : w18.cell? ⟨X5, 1, none⟩ = some (.slice a6 ((tkL sn zs ⟨p, nb, le, mo, ne, ys⟩ sl).length) c7) := (unhide K).2.2.2.2.1.c 1 (by simp)
  have mQXx00 : w18.cell? ⟨X11, 0, none⟩ = some (.int .i64 sn) := (unhide K).2.2.2.2.2.1.c 0 (by simp)
  have mQXx01 : w18.cell? ⟨X11, 1, none⟩ = some (.slice (some ⟨g10, 0, none⟩) dl1 dl1) := (unhide K).2.2.2.2.2.1.c 1 (by simp)
  have mQXx10 : w18.cell? ⟨X13, 0, none⟩ = some (.string p) := (unhide K).2.2.2.2.2.2.1.c 0 (by simp)
  have mQXx11 : w18.cell? ⟨X13, 1, none⟩ = some (.int .i64 nb) := (unhide K).2.2.2.2.2.2.1.c 1 (by simp)
  have mQXx12 : w18.cell? ⟨X13, 2, none⟩ = some (.int .i64 le) := (unhide K).2.2.2.2.2.2.1.c 2 (by simp)
  have mQXx13 : w18.cell? ⟨X13, 3, none⟩ = some (.int .i64 mo) := (unhide K).2.2.2.2.2.2.1.c 3 (by simp)
  have mQXx14 : w18.cell? ⟨X13, 4, none⟩ = some (.int .i64 ne) := (unhide K).2.2.2.2.2.2.1.c 4 (by simp)
  have mQXx15 : w18.cell? ⟨X13, 5, none⟩ = some (.slice (some ⟨g12, 0, none⟩) vl1 vl1) := (unhide K).2.2.2.2.2.2.1.c 5 (by simp)
  have mQG00 : w18.cell? ⟨X16, 0, none⟩ = some (.int .i64 sn) := (unhide K).2.2.2.2.2.2.2.2.c 0 (by simp)
  have mQG01 : w18.cell? ⟨X16, 1, none⟩ = some (.slice a14 ((tkL sn zs ⟨p, nb, le, mo, ne, ys⟩ sl).length) c15) := (unhide K).2.2.2.2.2.2.2.2.c 1 (by simp)
  go_wp2_with fail
  clear mPd0 mPd1 mPv0 mPv1 mPv2 mPv3 mPv4 mPv5 mQW00 mQW01 mQXx00 mQXx01 mQXx10 mQXx11 mQXx12 mQXx13 mQXx14 mQXx15 mQG00 mQG01
  refine (markAboard_own _ _ _ _ _ 1 _ _ _ (unhide K).2.2.2.2.2.2.2.1 ((tkL_lz hd1 (by have e := unhide Ev1; show ys.length ≤ 1048576; omega) : LzB (tkL sn zs ⟨p, nb, le, mo, ne, ys⟩ sl))) (by omega) (by omega)).mono ?_
  rintro x w19 ⟨rfl, om, on⟩
  have kb19 := kZ_bd ((tkL_lz hd1 (by have e := unhide Ev1; show ys.length ≤ 1048576; omega) : LzB (tkL sn zs ⟨p, nb, le, mo, ne, ys⟩ sl))) 1
  have S27 : Hid (w18.heap.size ≤ w19.heap.size) := hide on.size
  have K : Hid (Below w.heap.size w w19 ∧ Blk w19 w.heap.size [.int .i64 sn, .slice da1 dl1 dc1] ∧ Blk w19 (w.heap.size + 1) [.string p, .int .i64 nb, .int .i64 le, .int .i64 mo, .int .i64 ne, .slice va1 vl1 vc1] ∧ AbIs w19 lo8 hi9 a6 ((tkL sn zs ⟨p, nb, le, mo, ne, ys⟩ sl).length) c7 (tkL sn zs ⟨p, nb, le, mo, ne, ys⟩ sl) ∧ Blk w19 X5 [.int .i64 sn, .slice a6 ((tkL sn zs ⟨p, nb, le, mo, ne, ys⟩ sl).length) c7] ∧ Blk w19 X11 [.int .i64 sn, .slice (some ⟨g10, 0, none⟩) dl1 dl1] ∧ Blk w19 X13 [.string p, .int .i64 nb, .int .i64 le, .int .i64 mo, .int .i64 ne, .slice (some ⟨g12, 0, none⟩) vl1 vl1] ∧ AbMk w19 w8.heap.size w9.heap.size a14 ((tkL sn zs ⟨p, nb, le, mo, ne, ys⟩ sl).length) c15 (tkL sn zs ⟨p, nb, le, mo, ne, ys⟩ sl) 1 ∧ Blk w19 X16 [.int .i64 sn, .slice a14 ((tkL sn zs ⟨p, nb, le, mo, ne, ys⟩ sl).length) c15]) := hide ⟨below_only (unhide K).1 on (by have s0 := unhide S0; have s1 := unhide S1; have s2 := unhide S2; have s3 := unhide S3; have s4 := unhide S4; have s5 := unhide S5; have s6 := unhide S6; have s7 := unhide S7; have s8 := unhide S8; have s9 := unhide S9; have s10 := unhide S10; have s11 := unhide S11; have s12 := unhide S12; have s13 := unhide S13; have s14 := unhide S14; have s15 := unhide S15; have s16 := unhide S16; have s17 := unhide S17; have s18 := unhide S18; have s19 := unhide S19; have s20 := unhide S20; have s21 := unhide S21; have s22 := unhide S22; have s23 := unhide S23; have s24 := unhide S24; have s25 := unhide S25; have s26 := unhide S26; have s27 := unhide S27; omega) (Nat.le_refl _), (unhide K).2.1.only on (by have s0 := unhide S0; have s1 := unhide S1; have s2 := unhide S2; have s3 := unhide S3; have s4 := unhide S4; have s5 := unhide S5; have s6 := unhide S6; have s7 := unhide S7; have s8 := unhide S8; have s9 := unhide S9; have s10 := unhide S10; have s11 := unhide S11; have s12 := unhide S12; have s13 := unhide S13; have s14 := unhide S14; have s15 := unhide S15; have s16 := unhide S16; have s17 := unhide S17; have s18 := unhide S18; have s19 := unhide S19; have s20 := unhide S20; have s21 := unhide S21; have s22 := unhide S22; have s23 := unhide S23; have s24 := unhide S24; have s25 := unhide S25; have s26 := unhide S26; have s27 := unhide S27; omega), (unhide K).2.2.1.only on (by have s0 := unhide S0; have s1 := unhide S1; have s2 := unhide S2; have s3 := unhide S3; have s4 := unhide S4; have s5 := unhide S5; have s6 := unhide S6; have s7 := unhide S7; have s8 := unhide S8; have s9 := unhide S9; have s10 := unhide S10; have s11 := unhide S11; have s12 := unhide S12; have s13 := unhide S13; have s14 := unhide S14; have s15 := unhide S15; have s16 := unhide S16; have s17 := unhide S17; have s18 := unhide S18; have s19 := unhide S19; have s20 := unhide S20; have s21 := unhide S21; have s22 := unhide S22; have s23 := unhide S23; have s24 := unhide S24; have s25 := unhide S25; have s26 := unhide S26; have s27 := unhide S27; omega), (unhide K).2.2.2.1.only on (by have s0 := unhide S0; have s1 := unhide S1; have s2 := unhide S2; have s3 := unhide S3; have s4 := unhide S4; have s5 := unhide S5; have s6 := unhide S6; have s7 := unhide S7; have s8 := unhide S8; have s9 := unhide S9; have s10 := unhide S10; have s11 := unhide S11; have s12 := unhide S12; have s13 := unhide S13; have s14 := unhide S14; have s15 := unhide S15; have s16 := unhide S16; have s17 := unhide S17; have s18 := unhide S18; have s19 := unhide S19; have s20 := unhide S20; have s21 := unhide S21; have s22 := unhide S22; have s23 := unhide S23; have s24 := unhide S24; have s25 := unhide S25; have s26 := unhide S26; have s27 := unhide S27; omega), (unhide K).2.2.2.2.1.only on (by have s0 := unhide S0; have s1 := unhide S1; have s2 := unhide S2; have s3 := unhide S3; have s4 := unhide S4; have s5 := unhide S5; have s6 := unhide S6; have s7 := unhide S7; have s8 := unhide S8; have s9 := unhide S9; have s10 := unhide S10; have s11 := unhide S11; have s12 := unhide S12; have s13 := unhide S13; have s14 := unhide S14; have s15 := unhide S15; have s16 := unhide S16; have s17 := unhide S17; have s18 := unhide S18; have s19 := unhide S19; have s20 := unhide S20; have s21 := unhide S21; have s22 := unhide S22; have s23 := unhide S23; have s24 := unhide S24; have s25 := unhide S25; have s26 := unhide S26; have s27 := unhide S27; omega), (unhide K).2.2.2.2.2.1.only on (by have s0 := unhide S0; have s1 := unhide S1; have s2 := unhide S2; have s3 := unhide S3; have s4 := unhide S4; have s5 := unhide S5; have s6 := unhide S6; have s7 := unhide S7; have s8 := unhide S8; have s9 := unhide S9; have s10 := unhide S10; have s11 := unhide S11; have s12 := unhide S12; have s13 := unhide S13; have s14 := unhide S14; have s15 := unhide S15; have s16 := unhide S16; have s17 := unhide S17; have s18 := unhide S18; have s19 := unhide S19; have s20 := unhide S20; have s21 := unhide S21; have s22 := unhide S22; have s23 := unhide S23; have s24 := unhide S24; have s25 := unhide S25; have s26 := unhide S26; have s27 := unhide S27; omega), (unhide K).2.2.2.2.2.2.1.only on (by have s0 := unhide S0; have s1 := unhide S1; have s2 := unhide S2; have s3 := unhide S3; have s4 := unhide S4; have s5 := unhide S5; have s6 := unhide S6; have s7 := unhide S7; have s8 := unhide S8; have s9 := unhide S9; have s10 := unhide S10; have s11 := unhide S11; have s12 := unhide S12; have s13 := unhide S13; have s14 := unhide S14; have s15 := unhide S15; have s16 := unhide S16; have s17 := unhide S17; have s18 := unhide S18; have s19 := unhide S19; have s20 := unhide S20; have s21 := unhide S21; have s22 := unhide S22; have s23 := unhide S23; have s24 := unhide S24; have s25 := unhide S25; have s26 := unhide S26; have s27 := unhide S27; omega), om, (unhide K).2.2.2.2.2.2.2.2.only on (by have s0 := unhide S0; have s1 := unhide S1; have s2 := unhide S2; have s3 := unhide S3; have s4 := unhide S4; have s5 := unhide S5; have s6 := unhide S6; have s7 := unhide S7; have s8 := unhide S8; have s9 := unhide S9; have s10 := unhide S10; have s11 := unhide S11; have s12 := unhide S12; have s13 := unhide S13; have s14 := unhide S14; have s15 := unhide S15; have s16 := unhide S16; have s17 := unhide S17; have s18 := unhide S18; have s19 := unhide S19; have s20 := unhide S20; have s21 := unhide S21; have s22 := unhide S22; have s23 := unhide S23; have s24 := unhide S24; have s25 := unhide S25; have s26 := unhide S26; have s27 := unhide S27; omega)⟩
  clear KEPT om on
  have KEPT : Hid (∀ W u3, (Below w.heap.size w W ∧ Blk W w.heap.size [.int .i64 sn, .slice da1 dl1 dc1] ∧ Blk W (w.heap.size + 1) [.string p, .int .i64 nb, .int .i64 le, .int .i64 mo, .int .i64 ne, .slice va1 vl1 vc1] ∧ AbIs W lo8 hi9 a6 ((tkL sn zs ⟨p, nb, le, mo, ne, ys⟩ sl).length) c7 (tkL sn zs ⟨p, nb, le, mo, ne, ys⟩ sl) ∧ Blk W X5 [.int .i64 sn, .slice a6 ((tkL sn zs ⟨p, nb, le, mo, ne, ys⟩ sl).length) c7] ∧ Blk W X11 [.int .i64 sn, .slice (some ⟨g10, 0, none⟩) dl1 dl1] ∧ Blk W X13 [.string p, .int .i64 nb, .int .i64 le, .int .i64 mo, .int .i64 ne, .slice (some ⟨g12, 0, none⟩) vl1 vl1] ∧ AbMk W w8.heap.size w9.heap.size a14 ((tkL sn zs ⟨p, nb, le, mo, ne, ys⟩ sl).length) c15 (tkL sn zs ⟨p, nb, le, mo, ne, ys⟩ sl) 1 ∧ Blk W X16 [.int .i64 sn, .slice a14 ((tkL sn zs ⟨p, nb, le, mo, ne, ys⟩ sl).length) c15]) → Below W.heap.size W u3 → (Below w.heap.size w u3 ∧ Blk u3 w.heap.size [.int .i64 sn, .slice da1 dl1 dc1] ∧ Blk u3 (w.heap.size + 1) [.string p, .int .i64 nb, .int .i64 le, .int .i64 mo, .int .i64 ne, .slice va1 vl1 vc1] ∧ AbIs u3 lo8 hi9 a6 ((tkL sn zs ⟨p, nb, le, mo, ne, ys⟩ sl).length) c7 (tkL sn zs ⟨p, nb, le, mo, ne, ys⟩ sl) ∧ Blk u3 X5 [.int .i64 sn, .slice a6 ((tkL sn zs ⟨p, nb, le, mo, ne, ys⟩ sl).length) c7] ∧ Blk u3 X11 [.int .i64 sn, .slice (some ⟨g10, 0, none⟩) dl1 dl1] ∧ Blk u3 X13 [.string p, .int .i64 nb, .int .i64 le, .int .i64 mo, .int .i64 ne, .slice (some ⟨g12, 0, none⟩) vl1 vl1] ∧ AbMk u3 w8.heap.size w9.heap.size a14 ((tkL sn zs ⟨p, nb, le, mo, ne, ys⟩ sl).length) c15 (tkL sn zs ⟨p, nb, le, mo, ne, ys⟩ sl) 1 ∧ Blk u3 X16 [.int .i64 sn, .slice a14 ((tkL sn zs ⟨p, nb, le, mo, ne, ys⟩ sl).length) c15])) := hide (fun W u3 h b => ⟨h.1.trans (b.mono h.1.size), h.2.1.below b, h.2.2.1.below b, h.2.2.2.1.below b, h.2.2.2.2.1.below b, h.2.2.2.2.2.1.below b, h.2.2.2.2.2.2.1.below b, h.2.2.2.2.2.2.2.1.below b, h.2.2.2.2.2.2.2.2.below b⟩)
  have mPd0 : w19.cell? ⟨w.heap.size, 0, none⟩ = some (.int .i64 sn) := (unhide K).2.1.c 0 (by simp)
  have mPd1 : w19.cell? ⟨w.heap.size, 1, none⟩ = some (.slice da1 dl1 dc1) := (unhide K).2.1.c 1 (by simp)
  have mPv0 : w19.cell? ⟨w.heap.size + 1, 0, none⟩ = some (.string p) := (unhide K).2.2.1.c 0 (by simp)
  have mPv1 : w19.cell? ⟨w.heap.size + 1, 1, none⟩ = some (.int .i64 nb) := (unhide K).2.2.1.c 1 (by simp)
  have mPv2 : w19.cell? ⟨w.heap.size + 1, 2, none⟩ = some (.int .i64 le) := (unhide K).2.2.1.c 2 (by simp)
  have mPv3 : w19.cell? ⟨w.heap.size + 1, 3, none⟩ = some (.int .i64 mo) := (unhide K).2.2.1.c 3 (by simp)
  have mPv4 : w19.cell? ⟨w.heap.size + 1, 4, none⟩ = some (.int .i64 ne) := (unhide K).2.2.1.c 4 (by simp)
  have mPv5 : w19.cell? ⟨w.heap.size + 1, 5, none⟩ = some (.slice va1 vl1 vc1) := (unhide K).2.2.1.c 5 (by simp)
  have mQW00 : w19.cell? ⟨X5, 0, none⟩ = some (.int .i64 sn) := (unhide K).2.2.2.2.1.c 0 (by simp)
  have mQW01 : w19.cell? ⟨X5, 1, none⟩ = some (.slice a6 ((tkL sn zs ⟨p, nb, le, mo, ne, ys⟩ sl).length) c7) := (unhide K).2.2.2.2.1.c 1 (by simp)
  have mQXx00 : w19.cell? ⟨X11, 0, none⟩ = some (.int .i64 sn) := (unhide K).2.2.2.2.2.1.c 0 (by simp)
  have mQXx01 : w19.cell? ⟨X11, 1, none⟩ = some (.slice (some ⟨g10, 0, none⟩) dl1 dl1) := (unhide K).2.2.2.2.2.1.c 1 (by simp)
  have mQXx10 : w19.cell? ⟨X13, 0, none⟩ = some (.string p) := (unhide K).2.2.2.2.2.2.1.c 0 (by simp)
  have mQXx11 : w19.cell? ⟨X13, 1, none⟩ = some (.int .i64 nb) := (unhide K).2.2.2.2.2.2.1.c 1 (by simp)
  have mQXx12 : w19.cell? ⟨X13, 2, none⟩ = some (.int .i64 le) := (unhide K).2.2.2.2.2.2.1.c 2 (by simp)
  have mQXx13 : w19.cell? ⟨X13, 3, none⟩ = some (.int .i64 mo) := (unhide K).2.2.2.2.2.2.1.c 3 (by simp)
  have mQXx14 : w19.cell? ⟨X13, 4, none⟩ = some (.int .i64 ne) := (unhide K).2.2.2.2.2.2.1.c 4 (by simp)
  have mQXx15 : w19.cell? ⟨X13, 5, none⟩ = some (.slice (some ⟨g12, 0, none⟩) vl1 vl1) := (unhide K).2.2.2.2.2.2.1.c 5 (by simp)
  have mQG00 : w19.cell? ⟨X16, 0, none⟩ = some (.int .i64 sn) := (unhide K).2.2.2.2.2.2.2.2.c 0 (by simp)
  have mQG01 : w19.cell? ⟨X16, 1, none⟩ = some (.slice a14 ((tkL sn zs ⟨p, nb, le, mo, ne, ys⟩ sl).length) c15) := (unhide K).2.2.2.2.2.2.2.2.c 1 (by simp)
  go_wp2_with fail
  clear mPd0 mPd1 mPv0 mPv1 mPv2 mPv3 mPv4 mPv5 mQW00 mQW01 mQXx00 mQXx01 mQXx10 mQXx11 mQXx12 mQXx13 mQXx14 mQXx15 mQG00 mQG01
  refine (heldAboard_any _ _ _ _ _ 1 _ _ _ (unhide K).2.2.2.2.2.2.2.1 ((tkL_lz hd1 (by have e := unhide Ev1; show ys.length ≤ 1048576; omega) : LzB (tkL sn zs ⟨p, nb, le, mo, ne, ys⟩ sl))) (by omega) (by omega)).mono ?_
  rintro x w20 ⟨rfl, b⟩
  have kb20 := kZ_bd ((tkL_lz hd1 (by have e := unhide Ev1; show ys.length ≤ 1048576; omega) : LzB (tkL sn zs ⟨p, nb, le, mo, ne, ys⟩ sl))) 1
  have S28 : Hid (w19.heap.size ≤ w20.heap.size) := hide b.size
  have K : Hid (Below w.heap.size w w20 ∧ Blk w20 w.heap.size [.int .i64 sn, .slice da1 dl1 dc1] ∧ Blk w20 (w.heap.size + 1) [.string p, .int .i64 nb, .int .i64 le, .int .i64 mo, .int .i64 ne, .slice va1 vl1 vc1] ∧ AbIs w20 lo8 hi9 a6 ((tkL sn zs ⟨p, nb, le, mo, ne, ys⟩ sl).length) c7 (tkL sn zs ⟨p, nb, le, mo, ne, ys⟩ sl) ∧ Blk w20 X5 [.int .i64 sn, .slice a6 ((tkL sn zs ⟨p, nb, le, mo, ne, ys⟩ sl).length) c7] ∧ Blk w20 X11 [.int .i64 sn, .slice (some ⟨g10, 0, none⟩) dl1 dl1] ∧ Blk w20 X13 [.string p, .int .i64 nb, .int .i64 le, .int .i64 mo, .int .i64 ne, .slice (some ⟨g12, 0, none⟩) vl1 vl1] ∧ AbMk w20 w8.heap.size w9.heap.size a14 ((tkL sn zs ⟨p, nb, le, mo, ne, ys⟩ sl).length) c15 (tkL sn zs ⟨p, nb, le, mo, ne, ys⟩ sl) 1 ∧ Blk w20 X16 [.int .i64 sn, .slice a14 ((tkL sn zs ⟨p, nb, le, mo, ne, ys⟩ sl).length) c15]) := hide ((unhide KEPT) _ _ (unhide K) b)
  clear b
  have nq20 : ¬ (kZ (tkL sn zs ⟨p, nb, le, mo, ne, ys⟩ sl) 1 < 0) := by omega
  have nn20 : (kZ (tkL sn zs ⟨p, nb, le, mo, ne, ys⟩ sl) 1 != kZ (tkL sn zs ⟨p, nb, le, mo, ne, ys⟩ sl) 1) = false := by simp
  have mPd0 : w20.cell? ⟨w.heap.size, 0, none⟩ = some (.int .i64 sn) := (unhide K).2.1.c 0 (by simp)
  have mPd1 : w20.cell? ⟨w.heap.size, 1, none⟩ = some (.slice da1 dl1 dc1) := (unhide K).2.1.c 1 (by simp)
  have mPv0 : w20.cell? ⟨w.heap.size + 1, 0, none⟩ = some (.string p) := (unhide K).2.2.1.c 0 (by simp)
  have mPv1 : w20.cell? ⟨w.heap.size + 1, 1, none⟩ = some (.int .i64 nb) := (unhide K).2.2.1.c 1 (by simp)
  have mPv2 : w20.cell? ⟨w.heap.size + 1, 2, none⟩ = some (.int .i64 le) := (unhide K).2.2.1.c 2 (by simp)
  have mPv3 : w20.cell? ⟨w.heap.size + 1, 3, none⟩ = some (.int .i64 mo) := (unhide K).2.2.1.c 3 (by simp)
  have mPv4 : w20.cell? ⟨w.heap.size + 1, 4, none⟩ = some (.int .i64 ne) := (unhide K).2.2.1.c 4 (by simp)
  have mPv5 : w20.cell? ⟨w.heap.size + 1, 5, none⟩ = some (.slice va1 vl1 vc1) := (unhide K).2.2.1.c 5 (by simp)
  have mQW00 : w20.cell? ⟨X5, 0, none⟩ = some (.int .i64 sn) := (unhide K).2.2.2.2.1.c 0 (by simp)
  have mQW01 : w20.cell? ⟨X5, 1, none⟩ = some (.slice a6 ((tkL sn zs ⟨p, nb, le, mo, ne, ys⟩ sl).length) c7) := (unhide K).2.2.2.2.1.c 1 (by simp)
  have mQXx00 : w20.cell? ⟨X11, 0, none⟩ = some (.int .i64 sn) := (unhide K).2.2.2.2.2.1.c 0 (by simp)
  have mQXx01 : w20.cell? ⟨X11, 1, none⟩ = some (.slice (some ⟨g10, 0, none⟩) dl1 dl1) := (unhide K).2.2.2.2.2.1.c 1 (by simp)
  have mQXx10 : w20.cell? ⟨X13, 0, none⟩ = some (.string p) := (unhide K).2.2.2.2.2.2.1.c 0 (by simp)
  have mQXx11 : w20.cell? ⟨X13, 1, none⟩ = some (.int .i64 nb) := (unhide K).2.2.2.2.2.2.1.c 1 (by simp)
  have mQXx12 : w20.cell? ⟨X13, 2, none⟩ = some (.int .i64 le) := (unhide K).2.2.2.2.2.2.1.c 2 (by simp)
  have mQXx13 : w20.cell? ⟨X13, 3, none⟩ = some (.int .i64 mo) := (unhide K).2.2.2.2.2.2.1.c 3 (by simp)
  have mQXx14 : w20.cell? ⟨X13, 4, none⟩ = some (.int .i64 ne) := (unhide K).2.2.2.2.2.2.1.c 4 (by simp)
  have mQXx15 : w20.cell? ⟨X13, 5, none⟩ = some (.slice (some ⟨g12, 0, none⟩) vl1 vl1) := (unhide K).2.2.2.2.2.2.1.c 5 (by simp)
  have mQG00 : w20.cell? ⟨X16, 0, none⟩ = some (.int .i64 sn) := (unhide K).2.2.2.2.2.2.2.2.c 0 (by simp)
  have mQG01 : w20.cell? ⟨X16, 1, none⟩ = some (.slice a14 ((tkL sn zs ⟨p, nb, le, mo, ne, ys⟩ sl).length) c15) := (unhide K).2.2.2.2.2.2.2.2.c 1 (by simp)
  go_wp2_with fail
  clear mPd0 mPd1 mPv0 mPv1 mPv2 mPv3 mPv4 mPv5 mQW00 mQW01 mQXx00 mQXx01 mQXx10 mQXx11 mQXx12 mQXx13 mQXx14 mQXx15 mQG00 mQG01
  have HPd := hide (unhide K).2.1
  have HId := hide ((unhide Rd).below (unhide K).1)
  have HPv := hide (unhide K).2.2.1
  have HIv := hide ((unhide Rv).below (unhide K).1)
  have HGSR := hide ((unhide HGS).below (unhide K).1)
  refine wp_region_flagsA (by kernel_rfl) (by kernel_rfl) (Take18Rimpl1J w20 sn da1 dl1 dc1 zs p nb le mo ne va1 vl1 vc1 ys sl) ?_ ?_ ?_
  · exact Take18Rimpl1J.mk (v0 := undef) (v1 := undef) (v2 := undef) (v3 := undef) (v4 := undef) (v5 := undef) (v6 := undef) (v7 := undef) (v8 := undef) (v9 := undef) (v11 := undef) ⟨(bel0d' 1 : Below w20.heap.size w20 (w20.drewN 1)), (fun h => by cases h), (fun h => by cases h), (fun h => by cases h), (fun h => by cases h), (fun h => by cases h), (fun h => by cases h), (fun h => by cases h), (fun h => by cases h), (fun h => by cases h), (fun h => by cases h), (fun h => by cases h), (fun h => by cases h), (fun h => by cases h), (fun h => by cases h), (fun h => by cases h), (fun h => by cases h), (fun h => by cases h), (fun h => by cases h), (fun h => by cases h), (fun h => by cases h), (fun h => by cases h)⟩ (by kernel_rfl)
  rotate_left 1
  · rintro l a V i o ho hl hd ⟨v0, v1, v2, v3, v4, v5, v6, v7, v8, v9, v11, rfl, K⟩
    have hi : i < 12 := (Array.getElem?_eq_some_iff.1 ho).1
    rcases (show i = 0 ∨ i = 1 ∨ i = 2 ∨ i = 3 ∨ i = 4 ∨ i = 5 ∨ i = 6 ∨ i = 7 ∨ i = 8 ∨ i = 9 ∨ i = 10 ∨ i = 11 from by omega) with rfl | rfl | rfl | rfl | rfl | rfl | rfl | rfl | rfl | rfl | rfl | rfl
    · simp at ho
      subst ho
      have cb := (unhide HPd).below K.bel
      have yy0 : V.cell? ⟨w.heap.size, 0, none⟩ = some (.int .i64 sn) := cb.c 0 (by simp)
      have yy1 : V.cell? ⟨w.heap.size, 1, none⟩ = some (.slice da1 dl1 dc1) := cb.c 1 (by simp)
      have HK : Hid (Take18Rimpl1 w20 sn da1 dl1 dc1 zs p nb le mo ne va1 vl1 vc1 ys sl true (l 1) (l 2) (l 3) (l 4) (l 5) (l 6) (l 7) (l 8) (l 9) (l 10) (l 11) (.agg #[.int .i64 sn, .slice da1 dl1 dc1]) v1 v2 v3 v4 v5 v6 v7 v8 v9 v11 V) := hide ⟨(K.bel), (fun _ => rfl), (K.e1), (K.e2), (K.e3), (K.e4), (K.e5), (K.q5), (K.e6), (K.q6), (K.c6), (K.e7), (K.c7), (K.e8), (K.c8), (K.e9), (K.f9), (K.n10), (K.e11), (K.i10_7), (K.i7_6), (K.i6_5)⟩
      clear K hd hl cb
      go_wp2_with fail
      exact ⟨rfl, Take18Rimpl1J.mk (unhide HK) (by kernel_rfl)⟩
    · simp at ho
      subst ho
      have d0 : l 0 = true := hd ⟨0, .data⟩ (by simp) rfl
      have x0 := K.e0 d0
      subst x0
      have HK0 := hide K
      clear K hd hl
      go_wp2_with (go_at_call 18; refine (toAboard_own _ _ _ _ _ _ ((unhide HId).below (unhide HK0).bel) hd1).mono ?_; rintro e V2 ⟨⟨g19, rfl, oc⟩, b2⟩; have K := (unhide HK0).below b2; have HK : Hid (Take18Rimpl1 w20 sn da1 dl1 dc1 zs p nb le mo ne va1 vl1 vc1 ys sl (l 0) true (l 2) (l 3) (l 4) (l 5) (l 6) (l 7) (l 8) (l 9) (l 10) (l 11) (.agg #[.int .i64 sn, .slice da1 dl1 dc1]) (.agg #[.int .i64 sn, .slice (some ⟨g19, 0, none⟩) dl1 dl1]) v2 v3 v4 v5 v6 v7 v8 v9 v11 V2) := hide ⟨(K.bel), (K.e0), (fun _ _ => ⟨g19, rfl, oc.mono (unhide HK0).bel.size⟩), (K.e2), (K.e3), (K.e4), (K.e5), (K.q5), (K.e6), (K.q6), (K.c6), (K.e7), (K.c7), (K.e8), (K.c8), (K.e9), (K.f9), (K.n10), (K.e11), (K.i10_7), (K.i7_6), (K.i6_5)⟩; clear K b2)
      exact ⟨rfl, Take18Rimpl1J.mk (unhide HK) (by kernel_rfl)⟩
    · simp at ho
      subst ho
      have cb := (unhide HPv).below K.bel
      have yy0 : V.cell? ⟨w.heap.size + 1, 0, none⟩ = some (.string p) := cb.c 0 (by simp)
      have yy1 : V.cell? ⟨w.heap.size + 1, 1, none⟩ = some (.int .i64 nb) := cb.c 1 (by simp)
      have yy2 : V.cell? ⟨w.heap.size + 1, 2, none⟩ = some (.int .i64 le) := cb.c 2 (by simp)
      have yy3 : V.cell? ⟨w.heap.size + 1, 3, none⟩ = some (.int .i64 mo) := cb.c 3 (by simp)
      have yy4 : V.cell? ⟨w.heap.size + 1, 4, none⟩ = some (.int .i64 ne) := cb.c 4 (by simp)
      have yy5 : V.cell? ⟨w.heap.size + 1, 5, none⟩ = some (.slice va1 vl1 vc1) := cb.c 5 (by simp)
      have HK : Hid (Take18Rimpl1 w20 sn da1 dl1 dc1 zs p nb le mo ne va1 vl1 vc1 ys sl (l 0) (l 1) true (l 3) (l 4) (l 5) (l 6) (l 7) (l 8) (l 9) (l 10) (l 11) v0 v1 (.agg #[.string p, .int .i64 nb, .int .i64 le, .int .i64 mo, .int .i64 ne, .slice va1 vl1 vc1]) v3 v4 v5 v6 v7 v8 v9 v11 V) := hide ⟨(K.bel), (K.e0), (K.e1), (fun _ => rfl), (K.e3), (K.e4), (K.e5), (K.q5), (K.e6), (K.q6), (K.c6), (K.e7), (K.c7), (K.e8), (K.c8), (K.e9), (K.f9), (K.n10), (K.e11), (K.i10_7), (K.i7_6), (K.i6_5)⟩
      clear K hd hl cb
      go_wp2_with fail
      exact ⟨rfl, Take18Rimpl1J.mk (unhide HK) (by kernel_rfl)⟩
    · simp at ho
      subst ho
      have d2 : l 2 = true := hd ⟨2, .data⟩ (by simp) rfl
      have x2 := K.e2 d2
      subst x2
      have HK0 := hide K
      clear K hd hl
      go_wp2_with (go_at_call 19; refine (toLoad18_own _ _ _ _ _ _ _ _ _ _ ((unhide HIv).below (unhide HK0).bel) hv1).mono ?_; rintro e V2 ⟨⟨g20, rfl, oc⟩, b2⟩; have K := (unhide HK0).below b2; have HK : Hid (Take18Rimpl1 w20 sn da1 dl1 dc1 zs p nb le mo ne va1 vl1 vc1 ys sl (l 0) (l 1) (l 2) true (l 4) (l 5) (l 6) (l 7) (l 8) (l 9) (l 10) (l 11) v0 v1 (.agg #[.string p, .int .i64 nb, .int .i64 le, .int .i64 mo, .int .i64 ne, .slice va1 vl1 vc1]) (.agg #[.string p, .int .i64 nb, .int .i64 le, .int .i64 mo, .int .i64 ne, .slice (some ⟨g20, 0, none⟩) vl1 vl1]) v4 v5 v6 v7 v8 v9 v11 V2) := hide ⟨(K.bel), (K.e0), (K.e1), (K.e2), (fun _ _ => ⟨g20, rfl, oc.mono (unhide HK0).bel.size⟩), (K.e4), (K.e5), (K.q5), (K.e6), (K.q6), (K.c6), (K.e7), (K.c7), (K.e8), (K.c8), (K.e9), (K.f9), (K.n10), (K.e11), (K.i10_7), (K.i7_6), (K.i6_5)⟩; clear K b2)
      exact ⟨rfl, Take18Rimpl1J.mk (unhide HK) (by kernel_rfl)⟩
    · simp at ho
      subst ho
      have HK : Hid (Take18Rimpl1 w20 sn da1 dl1 dc1 zs p nb le mo ne va1 vl1 vc1 ys sl (l 0) (l 1) (l 2) (l 3) true (l 5) (l 6) (l 7) (l 8) (l 9) (l 10) (l 11) v0 v1 v2 v3 (.int .i64 sl) v5 v6 v7 v8 v9 v11 V) := hide ⟨(K.bel), (K.e0), (K.e1), (K.e2), (K.e3), (fun _ => rfl), (K.e5), (K.q5), (K.e6), (K.q6), (K.c6), (K.e7), (K.c7), (K.e8), (K.c8), (K.e9), (K.f9), (K.n10), (K.e11), (K.i10_7), (K.i7_6), (K.i6_5)⟩
      clear K hd hl
      go_wp2_with fail
      exact ⟨rfl, Take18Rimpl1J.mk (unhide HK) (by kernel_rfl)⟩
    · simp at ho
      subst ho
      have d1 : l 1 = true := hd ⟨1, .data⟩ (by simp) rfl
      obtain ⟨g19, x1, y1⟩ := K.e1 d1 hl
      have Y1 := hide y1
      subst x1
      clear y1
      have d3 : l 3 = true := hd ⟨3, .data⟩ (by simp) rfl
      obtain ⟨g20, x3, y3⟩ := K.e3 d3 hl
      have Y3 := hide y3
      subst x3
      clear y3
      have d4 : l 4 = true := hd ⟨4, .data⟩ (by simp) rfl
      have x4 := K.e4 d4
      subst x4
      have zst : l 10 = false := by cases c : l 10; rfl; have := K.i6_5 (K.i7_6 (K.i10_7 c)); rw [hl] at this; cases this
      have HZS := hide zst
      have HK0 := hide K
      clear K hd hl zst
      go_wp2_with (go_at_call 9; refine (implTakeL_any _ _ _ _ _ _ _ _ _ _ _ _ _ _ _ _ ((unhide Y1).read) ((unhide Y3).read) (Nat.le_refl _) hd1 hv1 txv0 (unhide BYV) ((unhide HGSR).below (unhide HK0).bel)).mono ?_; rintro e V2 ⟨za, zc, rfl, oc, b2⟩; have K := (unhide HK0).below b2; have HK : Hid (Take18Rimpl1 w20 sn da1 dl1 dc1 zs p nb le mo ne va1 vl1 vc1 ys sl (l 0) (l 1) (l 2) (l 3) (l 4) true (l 6) (l 7) (l 8) (l 9) (l 10) (l 11) v0 (.agg #[.int .i64 sn, .slice (some ⟨g19, 0, none⟩) dl1 dl1]) v2 (.agg #[.string p, .int .i64 nb, .int .i64 le, .int .i64 mo, .int .i64 ne, .slice (some ⟨g20, 0, none⟩) vl1 vl1]) (.int .i64 sl) (.tuple #[.agg #[.int .i64 sn, .slice za ((tkL sn zs ⟨p, nb, le, mo, ne, ys⟩ sl).length) zc], .int .i64 (tkC sn zs ⟨p, nb, le, mo, ne, ys⟩ sl)]) v6 v7 v8 v9 v11 V2) := hide ⟨(K.bel), (K.e0), (fun _ h => by cases h), (K.e2), (fun _ h => by cases h), (K.e4), (fun _ _ => ⟨za, zc, V.heap.size, V2.heap.size, rfl, oc.is, (unhide HK0).bel.size, Nat.le_refl _, fun P h1 h2 => .inl (by obtain ⟨P2, x1, x2, x3⟩ := (unhide HK0).e9 h1 (unhide HZS); have e := x1.symm.trans h2; simp only [Value.pointer.injEq, Option.some.injEq, Addr.mk.injEq, and_true] at e; have := x3.lt; omega)⟩), (fun _ => ⟨_, rfl⟩), (K.e6), (K.q6), (fun _ => rfl), (K.e7), (fun _ => rfl), (K.e8), (fun _ => rfl), (K.e9), (K.f9), (K.n10), (K.e11), (K.i10_7), (K.i7_6), (fun _ => rfl)⟩; clear K b2 oc)
      exact ⟨rfl, Take18Rimpl1J.mk (unhide HK) (by kernel_rfl)⟩
    · simp at ho
      subst ho
      have d5 : l 5 = true := hd ⟨5, .data⟩ (by simp) rfl
      have zst : l 10 = false := by cases c : l 10; rfl; have := K.i7_6 (K.i10_7 c); rw [hl] at this; cases this
      obtain ⟨za, zc, zb, zu, x5, y1, y2, y3, y4⟩ := K.e5 d5 zst
      subst x5
      have HK : Hid (Take18Rimpl1 w20 sn da1 dl1 dc1 zs p nb le mo ne va1 vl1 vc1 ys sl (l 0) (l 1) (l 2) (l 3) (l 4) (l 5) true (l 7) (l 8) (l 9) (l 10) (l 11) v0 v1 v2 v3 v4 (.tuple #[.agg #[.int .i64 sn, .slice za ((tkL sn zs ⟨p, nb, le, mo, ne, ys⟩ sl).length) zc], .int .i64 (tkC sn zs ⟨p, nb, le, mo, ne, ys⟩ sl)]) (.tuple #[.agg #[.int .i64 sn, .slice za ((tkL sn zs ⟨p, nb, le, mo, ne, ys⟩ sl).length) zc], .int .i64 (tkC sn zs ⟨p, nb, le, mo, ne, ys⟩ sl)]) v7 v8 v9 v11 V) := hide ⟨(K.bel), (K.e0), (K.e1), (K.e2), (K.e3), (K.e4), (K.e5), (K.q5), (fun _ _ => ⟨za, zc, zb, zu, rfl, y1, y2, y3, y4⟩), (fun _ => ⟨_, rfl⟩), (fun _ => d5), (K.e7), (K.c7), (K.e8), (K.c8), (K.e9), (K.f9), (K.n10), (K.e11), (K.i10_7), (fun _ => rfl), (fun _ => d5)⟩
      clear K hd hl zst y1 y2 y3 y4
      go_wp2_with fail
      exact ⟨rfl, Take18Rimpl1J.mk (unhide HK) (by kernel_rfl)⟩
    · simp at ho
      subst ho
      have d6 : l 6 = true := hd ⟨6, .data⟩ (by simp) rfl
      have zst : l 10 = false := by cases c : l 10; rfl; have := K.i10_7 c; rw [hl] at this; cases this
      obtain ⟨za, zc, zb, zu, x6, y1, y2, y3, y4⟩ := K.e6 d6 zst
      subst x6
      have HK : Hid (Take18Rimpl1 w20 sn da1 dl1 dc1 zs p nb le mo ne va1 vl1 vc1 ys sl (l 0) (l 1) (l 2) (l 3) (l 4) (l 5) (l 6) true (l 8) (l 9) (l 10) (l 11) v0 v1 v2 v3 v4 v5 (.tuple #[.agg #[.int .i64 sn, .slice za ((tkL sn zs ⟨p, nb, le, mo, ne, ys⟩ sl).length) zc], .int .i64 (tkC sn zs ⟨p, nb, le, mo, ne, ys⟩ sl)]) (.agg #[.int .i64 sn, .slice za ((tkL sn zs ⟨p, nb, le, mo, ne, ys⟩ sl).length) zc]) v8 v9 v11 V) := hide ⟨(K.bel), (K.e0), (K.e1), (K.e2), (K.e3), (K.e4), (K.e5), (K.q5), (K.e6), (K.q6), (K.c6), (fun _ _ => ⟨za, zc, zb, zu, rfl, y1, y2, y3, y4⟩), (fun _ => K.c6 d6), (K.e8), (K.c8), (K.e9), (K.f9), (K.n10), (K.e11), (fun _ => rfl), (fun _ => d6), (K.i6_5)⟩
      clear K hd hl zst y1 y2 y3 y4
      go_wp2_with fail
      exact ⟨rfl, Take18Rimpl1J.mk (unhide HK) (by kernel_rfl)⟩
    · simp at ho
      subst ho
      have d6 : l 6 = true := hd ⟨6, .data⟩ (by simp) rfl
      obtain ⟨za, x6⟩ := K.q6 d6
      subst x6
      have HK : Hid (Take18Rimpl1 w20 sn da1 dl1 dc1 zs p nb le mo ne va1 vl1 vc1 ys sl (l 0) (l 1) (l 2) (l 3) (l 4) (l 5) (l 6) (l 7) true (l 9) (l 10) (l 11) v0 v1 v2 v3 v4 v5 (.tuple #[za, .int .i64 (tkC sn zs ⟨p, nb, le, mo, ne, ys⟩ sl)]) v7 (.int .i64 (tkC sn zs ⟨p, nb, le, mo, ne, ys⟩ sl)) v9 v11 V) := hide ⟨(K.bel), (K.e0), (K.e1), (K.e2), (K.e3), (K.e4), (K.e5), (K.q5), (K.e6), (K.q6), (K.c6), (K.e7), (K.c7), (fun _ => rfl), (fun _ => K.c6 d6), (K.e9), (K.f9), (K.n10), (K.e11), (K.i10_7), (K.i7_6), (K.i6_5)⟩
      clear K hd hl
      go_wp2_with fail
      exact ⟨rfl, Take18Rimpl1J.mk (unhide HK) (by kernel_rfl)⟩
    · simp at ho
      subst ho
      have nz : l 10 = false := by cases c : l 10; rfl; have := K.n10 c; rw [hl] at this; cases this
      have K2 := K.below (bel1 (Obj.cells #[.int .i64 0, .slice none 0 0] 26))
      have HK : Hid (Take18Rimpl1 w20 sn da1 dl1 dc1 zs p nb le mo ne va1 vl1 vc1 ys sl (l 0) (l 1) (l 2) (l 3) (l 4) (l 5) (l 6) (l 7) (l 8) true (l 10) (l 11) v0 v1 v2 v3 v4 v5 v6 v7 v8 (.pointer (some ⟨V.heap.size, 0, none⟩)) v11 (V.alloc (Obj.cells #[.int .i64 0, .slice none 0 0] 26))) := hide ⟨(K2.bel), (K2.e0), (K2.e1), (K2.e2), (K2.e3), (K2.e4), (fun h1 h2 => by obtain ⟨za, zc, zb, zu, x1, x2, x3, x4, x5⟩ := K.e5 h1 h2; exact ⟨za, zc, zb, zu, x1, x2.below (bel1 _), x3, Nat.le_trans x4 (bel1 (Obj.cells #[.int .i64 0, .slice none 0 0] 26)).size, fun P _ hp => .inr (by simp only [Value.pointer.injEq, Option.some.injEq, Addr.mk.injEq, and_true] at hp; omega)⟩), (K2.q5), (fun h1 h2 => by obtain ⟨za, zc, zb, zu, x1, x2, x3, x4, x5⟩ := K.e6 h1 h2; exact ⟨za, zc, zb, zu, x1, x2.below (bel1 _), x3, Nat.le_trans x4 (bel1 (Obj.cells #[.int .i64 0, .slice none 0 0] 26)).size, fun P _ hp => .inr (by simp only [Value.pointer.injEq, Option.some.injEq, Addr.mk.injEq, and_true] at hp; omega)⟩), (K2.q6), (K2.c6), (fun h1 h2 => by obtain ⟨za, zc, zb, zu, x1, x2, x3, x4, x5⟩ := K.e7 h1 h2; exact ⟨za, zc, zb, zu, x1, x2.below (bel1 _), x3, Nat.le_trans x4 (bel1 (Obj.cells #[.int .i64 0, .slice none 0 0] 26)).size, fun P _ hp => .inr (by simp only [Value.pointer.injEq, Option.some.injEq, Addr.mk.injEq, and_true] at hp; omega)⟩), (K2.c7), (K2.e8), (K2.c8), (fun _ _ => ⟨_, rfl, K.bel.size, Blk.new _ _⟩), (fun h => by cases nz.symm.trans h), (fun _ => rfl), (K2.e11), (K2.i10_7), (K2.i7_6), (K2.i6_5)⟩
      clear K K2 hd hl nz
      go_wp2_with fail
      exact ⟨rfl, Take18Rimpl1J.mk (unhide HK) (by kernel_rfl)⟩
    · simp at ho
      subst ho
      have d9 : l 9 = true := hd ⟨9, .data⟩ (by simp) rfl
      have d7 : l 7 = true := hd ⟨7, .data⟩ (by simp) rfl
      obtain ⟨P, x1, x2, x3⟩ := K.e9 d9 hl
      obtain ⟨za, zc, zb, zu, w1, y1, y2, y3, y4⟩ := K.e7 d7 hl
      have yy0 : V.cell? ⟨P, 0, none⟩ = some (.int .i64 0) := x3.c 0 (by simp)
      have ff0 := x3.f 0 (by simp)
      have yy1 : V.cell? ⟨P, 1, none⟩ = some (.slice none 0 0) := x3.c 1 (by simp)
      have ff1 := x3.f 1 (by simp)
      have hP := y4 P d9 x1
      have dcall : l 5 = true := K.c7 d7
      subst x1
      subst w1
      have HK : Hid (Take18Rimpl1 w20 sn da1 dl1 dc1 zs p nb le mo ne va1 vl1 vc1 ys sl (l 0) (l 1) (l 2) (l 3) (l 4) (l 5) (l 6) (l 7) (l 8) (l 9) true (l 11) v0 v1 v2 v3 v4 v5 v6 (.agg #[.int .i64 sn, .slice za ((tkL sn zs ⟨p, nb, le, mo, ne, ys⟩ sl).length) zc]) v8 (.pointer (some ⟨P, 0, none⟩)) v11 ((V.setCell ⟨P, 0, none⟩ (.int .i64 sn)).setCell ⟨P, 1, none⟩ (.slice za ((tkL sn zs ⟨p, nb, le, mo, ne, ys⟩ sl).length) zc))) := hide ⟨(((K.bel.setCell x2 _).setCell x2 _)), (K.e0), (fun _ h => by have := dcall.symm.trans h; cases this), (K.e2), (fun _ h => by have := dcall.symm.trans h; cases this), (K.e4), (fun _ h => by cases h), (K.q5), (fun _ h => by cases h), (K.q6), (K.c6), (fun _ h => by cases h), (K.c7), (K.e8), (K.c8), (fun _ h => by cases h), (fun _ => ⟨P, za, zc, zb, zu, rfl, x2, ((x3.set 0 (by simp) _).set 1 (by simp) _), ((y1.only (lo := P) (hi := P + 1) (Only.of_row (grown_set (grown_refl _ (some P)) 0 _) (fun g hg => by have := Option.some.inj hg; omega)) (by omega)).only (lo := P) (hi := P + 1) (Only.of_row (grown_set (grown_refl _ (some P)) 1 _) (fun g hg => by have := Option.some.inj hg; omega)) (by omega)), y2, by simpa using y3, hP⟩), (fun _ => d9), (K.e11), (fun _ => d7), (K.i7_6), (K.i6_5)⟩
      clear K hd hl x3 y1 y2 y3 y4 hP
      go_wp2_with fail
      exact ⟨rfl, Take18Rimpl1J.mk (unhide HK) (by kernel_rfl)⟩
    · simp at ho
      subst ho
      have d8 : l 8 = true := hd ⟨8, .data⟩ (by simp) rfl
      have x8 := K.e8 d8
      subst x8
      have HK : Hid (Take18Rimpl1 w20 sn da1 dl1 dc1 zs p nb le mo ne va1 vl1 vc1 ys sl (l 0) (l 1) (l 2) (l 3) (l 4) (l 5) (l 6) (l 7) (l 8) (l 9) (l 10) true v0 v1 v2 v3 v4 v5 v6 v7 (.int .i64 (tkC sn zs ⟨p, nb, le, mo, ne, ys⟩ sl)) v9 (.int .i64 (tkC sn zs ⟨p, nb, le, mo, ne, ys⟩ sl)) V) := hide ⟨(K.bel), (K.e0), (K.e1), (K.e2), (K.e3), (K.e4), (K.e5), (K.q5), (K.e6), (K.q6), (K.c6), (K.e7), (K.c7), (K.e8), (K.c8), (K.e9), (K.f9), (K.n10), (fun _ => rfl), (K.i10_7), (K.i7_6), (K.i6_5)⟩
      clear K hd hl
      go_wp2_with fail
      exact ⟨rfl, Take18Rimpl1J.mk (unhide HK) (by kernel_rfl)⟩
  rintro l a w21 hall ⟨v0, v1, v2, v3, v4, v5, v6, v7, v8, v9, v11, rfl, K⟩
  have b := K.bel
  obtain ⟨X21, a22, c23, lo24, hi25, x1, x2, x3, x4, x5, x6, x7⟩ := K.f9 (hall 10 (by decide))
  subst x1
  have hSX21 := x3.lt
  have x11 := K.e11 (hall 11 (by decide))
  subst x11
  have JX21 := hide x3
  have IX21 := hide x2
  have Ja22 := hide x4
  have Ia22 := hide x5
  have Ua22 := hide x6
  clear x3 x2 x4 x5 x6 x7
  clear K hall
  have S29 : Hid (w20.heap.size ≤ w21.heap.size) := hide b.size
  have K : Hid (Below w.heap.size w w21 ∧ Blk w21 w.heap.size [.int .i64 sn, .slice da1 dl1 dc1] ∧ Blk w21 (w.heap.size + 1) [.string p, .int .i64 nb, .int .i64 le, .int .i64 mo, .int .i64 ne, .slice va1 vl1 vc1] ∧ AbIs w21 lo8 hi9 a6 ((tkL sn zs ⟨p, nb, le, mo, ne, ys⟩ sl).length) c7 (tkL sn zs ⟨p, nb, le, mo, ne, ys⟩ sl) ∧ Blk w21 X5 [.int .i64 sn, .slice a6 ((tkL sn zs ⟨p, nb, le, mo, ne, ys⟩ sl).length) c7] ∧ Blk w21 X11 [.int .i64 sn, .slice (some ⟨g10, 0, none⟩) dl1 dl1] ∧ Blk w21 X13 [.string p, .int .i64 nb, .int .i64 le, .int .i64 mo, .int .i64 ne, .slice (some ⟨g12, 0, none⟩) vl1 vl1] ∧ AbMk w21 w8.heap.size w9.heap.size a14 ((tkL sn zs ⟨p, nb, le, mo, ne, ys⟩ sl).length) c15 (tkL sn zs ⟨p, nb, le, mo, ne, ys⟩ sl) 1 ∧ Blk w21 X16 [.int .i64 sn, .slice a14 ((tkL sn zs ⟨p, nb, le, mo, ne, ys⟩ sl).length) c15]) := hide ((unhide KEPT) _ _ (unhide K) b)
  clear b
  have S30 : Hid (w20.heap.size ≤ X21) := hide (unhide IX21)
  have S31 : Hid (X21 + 1 ≤ w21.heap.size) := hide (by have := hSX21; omega)
  have S32 : Hid (w20.heap.size ≤ lo24 ∧ hi25 ≤ w21.heap.size) := hide ⟨unhide Ia22, unhide Ua22⟩
  have K : Hid (Below w.heap.size w w21 ∧ Blk w21 w.heap.size [.int .i64 sn, .slice da1 dl1 dc1] ∧ Blk w21 (w.heap.size + 1) [.string p, .int .i64 nb, .int .i64 le, .int .i64 mo, .int .i64 ne, .slice va1 vl1 vc1] ∧ AbIs w21 lo8 hi9 a6 ((tkL sn zs ⟨p, nb, le, mo, ne, ys⟩ sl).length) c7 (tkL sn zs ⟨p, nb, le, mo, ne, ys⟩ sl) ∧ Blk w21 X5 [.int .i64 sn, .slice a6 ((tkL sn zs ⟨p, nb, le, mo, ne, ys⟩ sl).length) c7] ∧ Blk w21 X11 [.int .i64 sn, .slice (some ⟨g10, 0, none⟩) dl1 dl1] ∧ Blk w21 X13 [.string p, .int .i64 nb, .int .i64 le, .int .i64 mo, .int .i64 ne, .slice (some ⟨g12, 0, none⟩) vl1 vl1] ∧ AbMk w21 w8.heap.size w9.heap.size a14 ((tkL sn zs ⟨p, nb, le, mo, ne, ys⟩ sl).length) c15 (tkL sn zs ⟨p, nb, le, mo, ne, ys⟩ sl) 1 ∧ Blk w21 X16 [.int .i64 sn, .slice a14 ((tkL sn zs ⟨p, nb, le, mo, ne, ys⟩ sl).length) c15] ∧ AbIs w21 lo24 hi25 a22 ((tkL sn zs ⟨p, nb, le, mo, ne, ys⟩ sl).length) c23 (tkL sn zs ⟨p, nb, le, mo, ne, ys⟩ sl)) := hide ⟨(unhide K).1, (unhide K).2.1, (unhide K).2.2.1, (unhide K).2.2.2.1, (unhide K).2.2.2.2.1, (unhide K).2.2.2.2.2.1, (unhide K).2.2.2.2.2.2.1, (unhide K).2.2.2.2.2.2.2.1, (unhide K).2.2.2.2.2.2.2.2, (unhide Ja22)⟩
  have K : Hid (Below w.heap.size w w21 ∧ Blk w21 w.heap.size [.int .i64 sn, .slice da1 dl1 dc1] ∧ Blk w21 (w.heap.size + 1) [.string p, .int .i64 nb, .int .i64 le, .int .i64 mo, .int .i64 ne, .slice va1 vl1 vc1] ∧ AbIs w21 lo8 hi9 a6 ((tkL sn zs ⟨p, nb, le, mo, ne, ys⟩ sl).length) c7 (tkL sn zs ⟨p, nb, le, mo, ne, ys⟩ sl) ∧ Blk w21 X5 [.int .i64 sn, .slice a6 ((tkL sn zs ⟨p, nb, le, mo, ne, ys⟩ sl).length) c7] ∧ Blk w21 X11 [.int .i64 sn, .slice (some ⟨g10, 0, none⟩) dl1 dl1] ∧ Blk w21 X13 [.string p, .int .i64 nb, .int .i64 le, .int .i64 mo, .int .i64 ne, .slice (some ⟨g12, 0, none⟩) vl1 vl1] ∧ AbMk w21 w8.heap.size w9.heap.size a14 ((tkL sn zs ⟨p, nb, le, mo, ne, ys⟩ sl).length) c15 (tkL sn zs ⟨p, nb, le, mo, ne, ys⟩ sl) 1 ∧ Blk w21 X16 [.int .i64 sn, .slice a14 ((tkL sn zs ⟨p, nb, le, mo, ne, ys⟩ sl).length) c15] ∧ AbIs w21 lo24 hi25 a22 ((tkL sn zs ⟨p, nb, le, mo, ne, ys⟩ sl).length) c23 (tkL sn zs ⟨p, nb, le, mo, ne, ys⟩ sl) ∧ Blk w21 X21 [.int .i64 sn, .slice a22 ((tkL sn zs ⟨p, nb, le, mo, ne, ys⟩ sl).length) c23]) := hide ⟨(unhide K).1, (unhide K).2.1, (unhide K).2.2.1, (unhide K).2.2.2.1, (unhide K).2.2.2.2.1, (unhide K).2.2.2.2.2.1, (unhide K).2.2.2.2.2.2.1, (unhide K).2.2.2.2.2.2.2.1, (unhide K).2.2.2.2.2.2.2.2.1, (unhide K).2.2.2.2.2.2.2.2.2, (unhide JX21)⟩
  clear KEPT JX21 Ja22 hSX21
  have KEPT : Hid (∀ W u3, (Below w.heap.size w W ∧ Blk W w.heap.size [.int .i64 sn, .slice da1 dl1 dc1] ∧ Blk W (w.heap.size + 1) [.string p, .int .i64 nb, .int .i64 le, .int .i64 mo, .int .i64 ne, .slice va1 vl1 vc1] ∧ AbIs W lo8 hi9 a6 ((tkL sn zs ⟨p, nb, le, mo, ne, ys⟩ sl).length) c7 (tkL sn zs ⟨p, nb, le, mo, ne, ys⟩ sl) ∧ Blk W X5 [.int .i64 sn, .slice a6 ((tkL sn zs ⟨p, nb, le, mo, ne, ys⟩ sl).length) c7] ∧ Blk W X11 [.int .i64 sn, .slice (some ⟨g10, 0, none⟩) dl1 dl1] ∧ Blk W X13 [.string p, .int .i64 nb, .int .i64 le, .int .i64 mo, .int .i64 ne, .slice (some ⟨g12, 0, none⟩) vl1 vl1] ∧ AbMk W w8.heap.size w9.heap.size a14 ((tkL sn zs ⟨p, nb, le, mo, ne, ys⟩ sl).length) c15 (tkL sn zs ⟨p, nb, le, mo, ne, ys⟩ sl) 1 ∧ Blk W X16 [.int .i64 sn, .slice a14 ((tkL sn zs ⟨p, nb, le, mo, ne, ys⟩ sl).length) c15] ∧ AbIs W lo24 hi25 a22 ((tkL sn zs ⟨p, nb, le, mo, ne, ys⟩ sl).length) c23 (tkL sn zs ⟨p, nb, le, mo, ne, ys⟩ sl) ∧ Blk W X21 [.int .i64 sn, .slice a22 ((tkL sn zs ⟨p, nb, le, mo, ne, ys⟩ sl).length) c23]) → Below W.heap.size W u3 → (Below w.heap.size w u3 ∧ Blk u3 w.heap.size [.int .i64 sn, .slice da1 dl1 dc1] ∧ Blk u3 (w.heap.size + 1) [.string p, .int .i64 nb, .int .i64 le, .int .i64 mo, .int .i64 ne, .slice va1 vl1 vc1] ∧ AbIs u3 lo8 hi9 a6 ((tkL sn zs ⟨p, nb, le, mo, ne, ys⟩ sl).length) c7 (tkL sn zs ⟨p, nb, le, mo, ne, ys⟩ sl) ∧ Blk u3 X5 [.int .i64 sn, .slice a6 ((tkL sn zs ⟨p, nb, le, mo, ne, ys⟩ sl).length) c7] ∧ Blk u3 X11 [.int .i64 sn, .slice (some ⟨g10, 0, none⟩) dl1 dl1] ∧ Blk u3 X13 [.string p, .int .i64 nb, .int .i64 le, .int .i64 mo, .int .i64 ne, .slice (some ⟨g12, 0, none⟩) vl1 vl1] ∧ AbMk u3 w8.heap.size w9.heap.size a14 ((tkL sn zs ⟨p, nb, le, mo, ne, ys⟩ sl).length) c15 (tkL sn zs ⟨p, nb, le, mo, ne, ys⟩ sl) 1 ∧ Blk u3 X16 [.int .i64 sn, .slice a14 ((tkL sn zs ⟨p, nb, le, mo, ne, ys⟩ sl).length) c15] ∧ AbIs u3 lo24 hi25 a22 ((tkL sn zs ⟨p, nb, le, mo, ne, ys⟩ sl).length) c23 (tkL sn zs ⟨p, nb, le, mo, ne, ys⟩ sl) ∧ Blk u3 X21 [.int .i64 sn, .slice a22 ((tkL sn zs ⟨p, nb, le, mo, ne, ys⟩ sl).length) c23])) := hide (fun W u3 h b => ⟨h.1.trans (b.mono h.1.size), h.2.1.below b, h.2.2.1.below b, h.2.2.2.1.below b, h.2.2.2.2.1.below b, h.2.2.2.2.2.1.below b, h.2.2.2.2.2.2.1.below b, h.2.2.2.2.2.2.2.1.below b, h.2.2.2.2.2.2.2.2.1.below b, h.2.2.2.2.2.2.2.2.2.1.below b, h.2.2.2.2.2.2.2.2.2.2.below b⟩)
  have mPd0 : w21.cell? ⟨w.heap.size, 0, none⟩ = some (.int .i64 sn) := (unhide K).2.1.c 0 (by simp)
  have mPd1 : w21.cell? ⟨w.heap.size, 1, none⟩ = some (.slice da1 dl1 dc1) := (unhide K).2.1.c 1 (by simp)
  have mPv0 : w21.cell? ⟨w.heap.size + 1, 0, none⟩ = some (.string p) := (unhide K).2.2.1.c 0 (by simp)
  have mPv1 : w21.cell? ⟨w.heap.size + 1, 1, none⟩ = some (.int .i64 nb) := (unhide K).2.2.1.c 1 (by simp)
  have mPv2 : w21.cell? ⟨w.heap.size + 1, 2, none⟩ = some (.int .i64 le) := (unhide K).2.2.1.c 2 (by simp)
  have mPv3 : w21.cell? ⟨w.heap.size + 1, 3, none⟩ = some (.int .i64 mo) := (unhide K).2.2.1.c 3 (by simp)
  have mPv4 : w21.cell? ⟨w.heap.size + 1, 4, none⟩ = some (.int .i64 ne) := (unhide K).2.2.1.c 4 (by simp)
  have mPv5 : w21.cell? ⟨w.heap.size + 1, 5, none⟩ = some (.slice va1 vl1 vc1) := (unhide K).2.2.1.c 5 (by simp)
  have mQW00 : w21.cell? ⟨X5, 0, none⟩ = some (.int .i64 sn) := (unhide K).2.2.2.2.1.c 0 (by simp)
  have mQW01 : w21.cell? ⟨X5, 1, none⟩ = some (.slice a6 ((tkL sn zs ⟨p, nb, le, mo, ne, ys⟩ sl).length) c7) := (unhide K).2.2.2.2.1.c 1 (by simp)
  have mQXx00 : w21.cell? ⟨X11, 0, none⟩ = some (.int .i64 sn) := (unhide K).2.2.2.2.2.1.c 0 (by simp)
  have mQXx01 : w21.cell? ⟨X11, 1, none⟩ = some (.slice (some ⟨g10, 0, none⟩) dl1 dl1) := (unhide K).2.2.2.2.2.1.c 1 (by simp)
  have mQXx10 : w21.cell? ⟨X13, 0, none⟩ = some (.string p) := (unhide K).2.2.2.2.2.2.1.c 0 (by simp)
  have mQXx11 : w21.cell? ⟨X13, 1, none⟩ = some (.int .i64 nb) := (unhide K).2.2.2.2.2.2.1.c 1 (by simp)
  have mQXx12 : w21.cell? ⟨X13, 2, none⟩ = some (.int .i64 le) := (unhide K).2.2.2.2.2.2.1.c 2 (by simp)
  have mQXx13 : w21.cell? ⟨X13, 3, none⟩ = some (.int .i64 mo) := (unhide K).2.2.2.2.2.2.1.c 3 (by simp)
  have mQXx14 : w21.cell? ⟨X13, 4, none⟩ = some (.int .i64 ne) := (unhide K).2.2.2.2.2.2.1.c 4 (by simp)
  have mQXx15 : w21.cell? ⟨X13, 5, none⟩ = some (.slice (some ⟨g12, 0, none⟩) vl1 vl1) := (unhide K).2.2.2.2.2.2.1.c 5 (by simp)
  have mQG00 : w21.cell? ⟨X16, 0, none⟩ = some (.int .i64 sn) := (unhide K).2.2.2.2.2.2.2.2.1.c 0 (by simp)
  have mQG01 : w21.cell? ⟨X16, 1, none⟩ = some (.slice a14 ((tkL sn zs ⟨p, nb, le, mo, ne, ys⟩ sl).length) c15) := (unhide K).2.2.2.2.2.2.2.2.1.c 1 (by simp)
  have mQH00 : w21.cell? ⟨X21, 0, none⟩ = some (.int .i64 sn) := (unhide K).2.2.2.2.2.2.2.2.2.2.c 0 (by simp)
  have mQH01 : w21.cell? ⟨X21, 1, none⟩ = some (.slice a22 ((tkL sn zs ⟨p, nb, le, mo, ne, ys⟩ sl).length) c23) := (unhide K).2.2.2.2.2.2.2.2.2.2.c 1 (by simp)
  go_wp2_with fail
  clear mPd0 mPd1 mPv0 mPv1 mPv2 mPv3 mPv4 mPv5 mQW00 mQW01 mQXx00 mQXx01 mQXx10 mQXx11 mQXx12 mQXx13 mQXx14 mQXx15 mQG00 mQG01 mQH00 mQH01
  refine (eqAboard_same _ _ _ _ _ _ _ _ (unhide K).2.2.2.2.2.2.2.2.2.1.read (unhide K).2.2.2.1.read).mono ?_
  rintro x w22 ⟨rfl, b⟩
  have S33 : Hid (w21.heap.size ≤ w22.heap.size) := hide b.size
  have K : Hid (Below w.heap.size w w22 ∧ Blk w22 w.heap.size [.int .i64 sn, .slice da1 dl1 dc1] ∧ Blk w22 (w.heap.size + 1) [.string p, .int .i64 nb, .int .i64 le, .int .i64 mo, .int .i64 ne, .slice va1 vl1 vc1] ∧ AbIs w22 lo8 hi9 a6 ((tkL sn zs ⟨p, nb, le, mo, ne, ys⟩ sl).length) c7 (tkL sn zs ⟨p, nb, le, mo, ne, ys⟩ sl) ∧ Blk w22 X5 [.int .i64 sn, .slice a6 ((tkL sn zs ⟨p, nb, le, mo, ne, ys⟩ sl).length) c7] ∧ Blk w22 X11 [.int .i64 sn, .slice (some ⟨g10, 0, none⟩) dl1 dl1] ∧ Blk w22 X13 [.string p, .int .i64 nb, .int .i64 le, .int .i64 mo, .int .i64 ne, .slice (some ⟨g12, 0, none⟩) vl1 vl1] ∧ AbMk w22 w8.heap.size w9.heap.size a14 ((tkL sn zs ⟨p, nb, le, mo, ne, ys⟩ sl).length) c15 (tkL sn zs ⟨p, nb, le, mo, ne, ys⟩ sl) 1 ∧ Blk w22 X16 [.int .i64 sn, .slice a14 ((tkL sn zs ⟨p, nb, le, mo, ne, ys⟩ sl).length) c15] ∧ AbIs w22 lo24 hi25 a22 ((tkL sn zs ⟨p, nb, le, mo, ne, ys⟩ sl).length) c23 (tkL sn zs ⟨p, nb, le, mo, ne, ys⟩ sl) ∧ Blk w22 X21 [.int .i64 sn, .slice a22 ((tkL sn zs ⟨p, nb, le, mo, ne, ys⟩ sl).length) c23]) := hide ((unhide KEPT) _ _ (unhide K) b)
  clear b
  have mPd0 : w22.cell? ⟨w.heap.size, 0, none⟩ = some (.int .i64 sn) := (unhide K).2.1.c 0 (by simp)
  have mPd1 : w22.cell? ⟨w.heap.size, 1, none⟩ = some (.slice da1 dl1 dc1) := (unhide K).2.1.c 1 (by simp)
  have mPv0 : w22.cell? ⟨w.heap.size + 1, 0, none⟩ = some (.string p) := (unhide K).2.2.1.c 0 (by simp)
  have mPv1 : w22.cell? ⟨w.heap.size + 1, 1, none⟩ = some (.int .i64 nb) := (unhide K).2.2.1.c 1 (by simp)
  have mPv2 : w22.cell? ⟨w.heap.size + 1, 2, none⟩ = some (.int .i64 le) := (unhide K).2.2.1.c 2 (by simp)
  have mPv3 : w22.cell? ⟨w.heap.size + 1, 3, none⟩ = some (.int .i64 mo) := (unhide K).2.2.1.c 3 (by simp)
  have mPv4 : w22.cell? ⟨w.heap.size + 1, 4, none⟩ = some (.int .i64 ne) := (unhide K).2.2.1.c 4 (by simp)
  have mPv5 : w22.cell? ⟨w.heap.size + 1, 5, none⟩ = some (.slice va1 vl1 vc1) := (unhide K).2.2.1.c 5 (by simp)
  have mQW00 : w22.cell? ⟨X5, 0, none⟩ = some (.int .i64 sn) := (unhide K).2.2.2.2.1.c 0 (by simp)
  have mQW01 : w22.cell? ⟨X5, 1, none⟩ = some (.slice a6 ((tkL sn zs ⟨p, nb, le, mo, ne, ys⟩ sl).length) c7) := (unhide K).2.2.2.2.1.c 1 (by simp)
  have mQXx00 : w22.cell? ⟨X11, 0, none⟩ = some (.int .i64 sn) := (unhide K).2.2.2.2.2.1.c 0 (by simp)
  have mQXx01 : w22.cell? ⟨X11, 1, none⟩ = some (.slice (some ⟨g10, 0, none⟩) dl1 dl1) := (unhide K).2.2.2.2.2.1.c 1 (by simp)
  have mQXx10 : w22.cell? ⟨X13, 0, none⟩ = some (.string p) := (unhide K).2.2.2.2.2.2.1.c 0 (by simp)
  have mQXx11 : w22.cell? ⟨X13, 1, none⟩ = some (.int .i64 nb) := (unhide K).2.2.2.2.2.2.1.c 1 (by simp)
  have mQXx12 : w22.cell? ⟨X13, 2, none⟩ = some (.int .i64 le) := (unhide K).2.2.2.2.2.2.1.c 2 (by simp)
  have mQXx13 : w22.cell? ⟨X13, 3, none⟩ = some (.int .i64 mo) := (unhide K).2.2.2.2.2.2.1.c 3 (by simp)
  have mQXx14 : w22.cell? ⟨X13, 4, none⟩ = some (.int .i64 ne) := (unhide K).2.2.2.2.2.2.1.c 4 (by simp)
  have mQXx15 : w22.cell? ⟨X13, 5, none⟩ = some (.slice (some ⟨g12, 0, none⟩) vl1 vl1) := (unhide K).2.2.2.2.2.2.1.c 5 (by simp)
  have mQG00 : w22.cell? ⟨X16, 0, none⟩ = some (.int .i64 sn) := (unhide K).2.2.2.2.2.2.2.2.1.c 0 (by simp)
  have mQG01 : w22.cell? ⟨X16, 1, none⟩ = some (.slice a14 ((tkL sn zs ⟨p, nb, le, mo, ne, ys⟩ sl).length) c15) := (unhide K).2.2.2.2.2.2.2.2.1.c 1 (by simp)
  have mQH00 : w22.cell? ⟨X21, 0, none⟩ = some (.int .i64 sn) := (unhide K).2.2.2.2.2.2.2.2.2.2.c 0 (by simp)
  have mQH01 : w22.cell? ⟨X21, 1, none⟩ = some (.slice a22 ((tkL sn zs ⟨p, nb, le, mo, ne, ys⟩ sl).length) c23) := (unhide K).2.2.2.2.2.2.2.2.2.2.c 1 (by simp)
  go_wp2_with fail
  clear mPd0 mPd1 mPv0 mPv1 mPv2 mPv3 mPv4 mPv5 mQW00 mQW01 mQXx00 mQXx01 mQXx10 mQXx11 mQXx12 mQXx13 mQXx14 mQXx15 mQG00 mQG01 mQH00 mQH01
  refine (heldAboard_any _ _ _ _ _ 1 _ _ _ (unhide K).2.2.2.2.2.2.2.1 ((tkL_lz hd1 (by have e := unhide Ev1; show ys.length ≤ 1048576; omega) : LzB (tkL sn zs ⟨p, nb, le, mo, ne, ys⟩ sl))) (by omega) (by omega)).mono ?_
  rintro x w23 ⟨rfl, b⟩
  have kb23 := kZ_bd ((tkL_lz hd1 (by have e := unhide Ev1; show ys.length ≤ 1048576; omega) : LzB (tkL sn zs ⟨p, nb, le, mo, ne, ys⟩ sl))) 1
  have S34 : Hid (w22.heap.size ≤ w23.heap.size) := hide b.size
  have K : Hid (Below w.heap.size w w23 ∧ Blk w23 w.heap.size [.int .i64 sn, .slice da1 dl1 dc1] ∧ Blk w23 (w.heap.size + 1) [.string p, .int .i64 nb, .int .i64 le, .int .i64 mo, .int .i64 ne, .slice va1 vl1 vc1] ∧ AbIs w23 lo8 hi9 a6 ((tkL sn zs ⟨p, nb, le, mo, ne, ys⟩ sl).length) c7 (tkL sn zs ⟨p, nb, le, mo, ne, ys⟩ sl) ∧ Blk w23 X5 [.int .i64 sn, .slice a6 ((tkL sn zs ⟨p, nb, le, mo, ne, ys⟩ sl).length) c7] ∧ Blk w23 X11 [.int .i64 sn, .slice (some ⟨g10, 0, none⟩) dl1 dl1] ∧ Blk w23 X13 [.string p, .int .i64 nb, .int .i64 le, .int .i64 mo, .int .i64 ne, .slice (some ⟨g12, 0, none⟩) vl1 vl1] ∧ AbMk w23 w8.heap.size w9.heap.size a14 ((tkL sn zs ⟨p, nb, le, mo, ne, ys⟩ sl).length) c15 (tkL sn zs ⟨p, nb, le, mo, ne, ys⟩ sl) 1 ∧ Blk w23 X16 [.int .i64 sn, .slice a14 ((tkL sn zs ⟨p, nb, le, mo, ne, ys⟩ sl).length) c15] ∧ AbIs w23 lo24 hi25 a22 ((tkL sn zs ⟨p, nb, le, mo, ne, ys⟩ sl).length) c23 (tkL sn zs ⟨p, nb, le, mo, ne, ys⟩ sl) ∧ Blk w23 X21 [.int .i64 sn, .slice a22 ((tkL sn zs ⟨p, nb, le, mo, ne, ys⟩ sl).length) c23]) := hide ((unhide KEPT) _ _ (unhide K) b)
  clear b
  have nq23 : ¬ (kZ (tkL sn zs ⟨p, nb, le, mo, ne, ys⟩ sl) 1 < 0) := by omega
  have nn23 : (kZ (tkL sn zs ⟨p, nb, le, mo, ne, ys⟩ sl) 1 != kZ (tkL sn zs ⟨p, nb, le, mo, ne, ys⟩ sl) 1) = false := by simp
  have mPd0 : w23.cell? ⟨w.heap.size, 0, none⟩ = some (.int .i64 sn) := (unhide K).2.1.c 0 (by simp)
  have mPd1 : w23.cell? ⟨w.heap.size, 1, none⟩ = some (.slice da1 dl1 dc1) := (unhide K).2.1.c 1 (by simp)
  have mPv0 : w23.cell? ⟨w.heap.size + 1, 0, none⟩ = some (.string p) := (unhide K).2.2.1.c 0 (by simp)
  have mPv1 : w23.cell? ⟨w.heap.size + 1, 1, none⟩ = some (.int .i64 nb) := (unhide K).2.2.1.c 1 (by simp)
  have mPv2 : w23.cell? ⟨w.heap.size + 1, 2, none⟩ = some (.int .i64 le) := (unhide K).2.2.1.c 2 (by simp)
  have mPv3 : w23.cell? ⟨w.heap.size + 1, 3, none⟩ = some (.int .i64 mo) := (unhide K).2.2.1.c 3 (by simp)
  have mPv4 : w23.cell? ⟨w.heap.size + 1, 4, none⟩ = some (.int .i64 ne) := (unhide K).2.2.1.c 4 (by simp)
  have mPv5 : w23.cell? ⟨w.heap.size + 1, 5, none⟩ = some (.slice va1 vl1 vc1) := (unhide K).2.2.1.c 5 (by simp)
  have mQW00 : w23.cell? ⟨X5, 0, none⟩ = some (.int .i64 sn) := (unhide K).2.2.2.2.1.c 0 (by simp)
  have mQW01 : w23.cell? ⟨X5, 1, none⟩ = some (.slice a6 ((tkL sn zs ⟨p, nb, le, mo, ne, ys⟩ sl).length) c7) := (unhide K).2.2.2.2.1.c 1 (by simp)
  have mQXx00 : w23.cell? ⟨X11, 0, none⟩ = some (.int .i64 sn) := (unhide K).2.2.2.2.2.1.c 0 (by simp)
  have mQXx01 : w23.cell? ⟨X11, 1, none⟩ = some (.slice (some ⟨g10, 0, none⟩) dl1 dl1) := (unhide K).2.2.2.2.2.1.c 1 (by simp)
  have mQXx10 : w23.cell? ⟨X13, 0, none⟩ = some (.string p) := (unhide K).2.2.2.2.2.2.1.c 0 (by simp)
  have mQXx11 : w23.cell? ⟨X13, 1, none⟩ = some (.int .i64 nb) := (unhide K).2.2.2.2.2.2.1.c 1 (by simp)
  have mQXx12 : w23.cell? ⟨X13, 2, none⟩ = some (.int .i64 le) := (unhide K).2.2.2.2.2.2.1.c 2 (by simp)
  have mQXx13 : w23.cell? ⟨X13, 3, none⟩ = some (.int .i64 mo) := (unhide K).2.2.2.2.2.2.1.c 3 (by simp)
  have mQXx14 : w23.cell? ⟨X13, 4, none⟩ = some (.int .i64 ne) := (unhide K).2.2.2.2.2.2.1.c 4 (by simp)
  have mQXx15 : w23.cell? ⟨X13, 5, none⟩ = some (.slice (some ⟨g12, 0, none⟩) vl1 vl1) := (unhide K).2.2.2.2.2.2.1.c 5 (by simp)
  have mQG00 : w23.cell? ⟨X16, 0, none⟩ = some (.int .i64 sn) := (unhide K).2.2.2.2.2.2.2.2.1.c 0 (by simp)
  have mQG01 : w23.cell? ⟨X16, 1, none⟩ = some (.slice a14 ((tkL sn zs ⟨p, nb, le, mo, ne, ys⟩ sl).length) c15) := (unhide K).2.2.2.2.2.2.2.2.1.c 1 (by simp)
  have mQH00 : w23.cell? ⟨X21, 0, none⟩ = some (.int .i64 sn) := (unhide K).2.2.2.2.2.2.2.2.2.2.c 0 (by simp)
  have mQH01 : w23.cell? ⟨X21, 1, none⟩ = some (.slice a22 ((tkL sn zs ⟨p, nb, le, mo, ne, ys⟩ sl).length) c23) := (unhide K).2.2.2.2.2.2.2.2.2.2.c 1 (by simp)
  go_wp2_with fail
  clear mPd0 mPd1 mPv0 mPv1 mPv2 mPv3 mPv4 mPv5 mQW00 mQW01 mQXx00 mQXx01 mQXx10 mQXx11 mQXx12 mQXx13 mQXx14 mQXx15 mQG00 mQG01 mQH00 mQH01
  go_ret
  exact ⟨rfl, (unhide K).1⟩
end Go.Proofs.YtemodlgmjgdjpaaGreatDoor
