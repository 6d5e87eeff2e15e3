/-
  The region of the law FnExactUpdate14 in which the function is called on copies and its panel kept as a variable: what is true whichever operation comes next. No condition.
  A region that draws its order, by an invariant: what is true at the start, is kept by each operation that may come next, and is enough when all are done. One goal an operation, whatever the number of orders. No program here.
  The region of a law in which a panel is held against a fresh copy: what is true whichever operation comes next. No condition.
-/
import Derived.Test.YtbaocifpifbldawGreatKp1
import Derived.Orders
import Derived.RegionTactic
import Derived.Test.YtbaocifpifbldawGreatPan1

namespace Go.Proofs.YtbaocifpifbldawGreat
open Go.RowKit

structure UpR (W : World) (la1 : Option Addr) (ll1 lc1 : Nat) (rs : List Wr) (a1 a2 a3 : Option Addr) (l1 c1 l2 c2 l3 c3 : Nat) (z1 z2 z3 : List ByteArray) (ph : Int) (ta1 : Option Addr) (tl1 tc1 : Nat) (ts : List ByteArray) (L1 L2 L3 L4 : List ByteArray) (bb : Bool) (t0 t1 t2 t3 t4 t5 t6 t7 t8 t9 t10 t11 t12 t13 t14 t15 : Bool) (v1 v2 v3 v4 v5 v6 v7 v8 v9 v10 v11 v12 v13 v14 v15 : Value) (x1 x2 x3 x4 : Value) (A : Nat) (w : World) : Prop where
  bel : Below W.heap.size W w
  e0 : t0 = true → v1 = (.slice la1 ll1 lc1)
  e1 : t1 = true → t13 = false → ∃ g h, v2 = .slice (some ⟨g, 0, none⟩) ll1 ll1 ∧ OwnW w g h ll1 rs
  e2 : t2 = true → v3 = (.agg #[.slice a1 l1 c1, .slice a2 l2 c2, .slice a3 l3 c3])
  e3 : t3 = true → t13 = false → ∃ g1 g2 g3, v4 = .agg #[.slice (some ⟨g1, 0, none⟩) l1 l1, .slice (some ⟨g2, 0, none⟩) l2 l2, .slice (some ⟨g3, 0, none⟩) l3 l3] ∧ PnIn w (some ⟨g1, 0, none⟩) (some ⟨g2, 0, none⟩) (some ⟨g3, 0, none⟩) l1 l2 l3 z1 z2 z3
  e4 : t4 = true → v5 = (.int .i64 ph)
  e5 : t5 = true → v6 = (.slice ta1 tl1 tc1)
  e6 : t6 = true → t13 = false → ∃ g, v7 = .slice (some ⟨g, 0, none⟩) tl1 tl1 ∧ RowE 1 stC w (some ⟨g, 0, none⟩) tl1 ts
  e7 : t7 = true → v8 = .tuple #[.agg #[x1, x2, x3], x4, .bool bb] ∧ PnV w W.heap.size x1 x2 x3 L1 L2 L3 ∧ TxV w W.heap.size x1 x2 x3 x4 L4
  e8 : t8 = true → v9 = .tuple #[.agg #[x1, x2, x3], x4, .bool bb]
  e9 : t9 = true → v10 = (.agg #[x1, x2, x3])
  e10 : t10 = true → v11 = x4
  e11 : t11 = true → v12 = (.bool bb)
  e12 : t12 = true → v13 = .pointer (some ⟨A, 0, none⟩) ∧ W.heap.size ≤ A ∧ Blk w A (bif t13 then [x1, x2, x3] else [.slice none 0 0, .slice none 0 0, .slice none 0 0])
  e14 : t14 = true → v14 = x4
  e15 : t15 = true → v15 = (.bool bb)
  far : t7 = true → t12 = true → PvFar A x1 x2 x3 ∧ x4.ownBlock ≠ some A
  cs1 : t13 = true → t7 = true ∧ t12 = true
  cl8 : t8 = true → t7 = true
  cl9 : t9 = true → t7 = true
  cl10 : t10 = true → t7 = true
  cl11 : t11 = true → t7 = true
  cl14 : t14 = true → t7 = true
  cl15 : t15 = true → t7 = true
theorem UpR.below {W : World} {la1 : Option Addr} {ll1 lc1 : Nat} {rs : List Wr} {a1 a2 a3 : Option Addr} {l1 c1 l2 c2 l3 c3 : Nat} {z1 z2 z3 : List ByteArray} {ph : Int} {ta1 : Option Addr} {tl1 tc1 : Nat} {ts : List ByteArray} {L1 L2 L3 L4 : List ByteArray} {bb : Bool} {t0 t1 t2 t3 t4 t5 t6 t7 t8 t9 t10 t11 t12 t13 t14 t15 : Bool} {v1 v2 v3 v4 v5 v6 v7 v8 v9 v10 v11 v12 v13 v14 v15 : Value} {x1 x2 x3 x4 : Value} {A : Nat} {w w' : World} (k : Below w.heap.size w w') (K : UpR W la1 ll1 lc1 rs a1 a2 a3 l1 c1 l2 c2 l3 c3 z1 z2 z3 ph ta1 tl1 tc1 ts L1 L2 L3 L4 bb t0 t1 t2 t3 t4 t5 t6 t7 t8 t9 t10 t11 t12 t13 t14 t15 v1 v2 v3 v4 v5 v6 v7 v8 v9 v10 v11 v12 v13 v14 v15 x1 x2 x3 x4 A w) : UpR W la1 ll1 lc1 rs a1 a2 a3 l1 c1 l2 c2 l3 c3 z1 z2 z3 ph ta1 tl1 tc1 ts L1 L2 L3 L4 bb t0 t1 t2 t3 t4 t5 t6 t7 t8 t9 t10 t11 t12 t13 t14 t15 v1 v2 v3 v4 v5 v6 v7 v8 v9 v10 v11 v12 v13 v14 v15 x1 x2 x3 x4 A w' := by
  exact ⟨(K.bel.trans (k.mono K.bel.size)), (K.e0), (fun h h' => by obtain ⟨g, e, a1, a2⟩ := K.e1 h h'; exact ⟨g, e, a1, a2.below k⟩), (K.e2), (fun h h' => by obtain ⟨g1, g2, g3, a1, a2⟩ := K.e3 h h'; exact ⟨g1, g2, g3, a1, a2.below k⟩), (K.e4), (K.e5), (fun h h' => by obtain ⟨g1, a1, a2⟩ := K.e6 h h'; exact ⟨g1, a1, a2.below k⟩), (fun h => ⟨(K.e7 h).1, ⟨(K.e7 h).2.1.below k, (K.e7 h).2.2.below k⟩⟩), (K.e8), (K.e9), (K.e10), (K.e11), (fun h => ⟨(K.e12 h).1, (K.e12 h).2.1, (K.e12 h).2.2.below k⟩), (K.e14), (K.e15), (K.far), (K.cs1), (K.cl8), (K.cl9), (K.cl10), (K.cl11), (K.cl14), (K.cl15)⟩
theorem UpR.step0 {W : World} {la1 : Option Addr} {ll1 lc1 : Nat} {rs : List Wr} {a1 a2 a3 : Option Addr} {l1 c1 l2 c2 l3 c3 : Nat} {z1 z2 z3 : List ByteArray} {ph : Int} {ta1 : Option Addr} {tl1 tc1 : Nat} {ts : List ByteArray} {L1 L2 L3 L4 : List ByteArray} {bb : Bool} {t0 t1 t2 t3 t4 t5 t6 t7 t8 t9 t10 t11 t12 t13 t14 t15 : Bool} {v1 v2 v3 v4 v5 v6 v7 v8 v9 v10 v11 v12 v13 v14 v15 : Value} {x1 x2 x3 x4 : Value} {A : Nat} {w : World} (K : UpR W la1 ll1 lc1 rs a1 a2 a3 l1 c1 l2 c2 l3 c3 z1 z2 z3 ph ta1 tl1 tc1 ts L1 L2 L3 L4 bb t0 t1 t2 t3 t4 t5 t6 t7 t8 t9 t10 t11 t12 t13 t14 t15 v1 v2 v3 v4 v5 v6 v7 v8 v9 v10 v11 v12 v13 v14 v15 x1 x2 x3 x4 A w) : UpR W la1 ll1 lc1 rs a1 a2 a3 l1 c1 l2 c2 l3 c3 z1 z2 z3 ph ta1 tl1 tc1 ts L1 L2 L3 L4 bb true t1 t2 t3 t4 t5 t6 t7 t8 t9 t10 t11 t12 t13 t14 t15 (.slice la1 ll1 lc1) v2 v3 v4 v5 v6 v7 v8 v9 v10 v11 v12 v13 v14 v15 x1 x2 x3 x4 A w := by
  exact ⟨(K.bel), (fun _ => rfl), (K.e1), (K.e2), (K.e3), (K.e4), (K.e5), (K.e6), (K.e7), (K.e8), (K.e9), (K.e10), (K.e11), (K.e12), (K.e14), (K.e15), (K.far), (K.cs1), (K.cl8), (K.cl9), (K.cl10), (K.cl11), (K.cl14), (K.cl15)⟩
theorem UpR.step1 {W : World} {la1 : Option Addr} {ll1 lc1 : Nat} {rs : List Wr} {a1 a2 a3 : Option Addr} {l1 c1 l2 c2 l3 c3 : Nat} {z1 z2 z3 : List ByteArray} {ph : Int} {ta1 : Option Addr} {tl1 tc1 : Nat} {ts : List ByteArray} {L1 L2 L3 L4 : List ByteArray} {bb : Bool} {t0 t1 t2 t3 t4 t5 t6 t7 t8 t9 t10 t11 t12 t13 t14 t15 : Bool} {v1 v2 v3 v4 v5 v6 v7 v8 v9 v10 v11 v12 v13 v14 v15 : Value} {x1 x2 x3 x4 : Value} {A : Nat} {u : Value} {w w' : World} (K : UpR W la1 ll1 lc1 rs a1 a2 a3 l1 c1 l2 c2 l3 c3 z1 z2 z3 ph ta1 tl1 tc1 ts L1 L2 L3 L4 bb t0 t1 t2 t3 t4 t5 t6 t7 t8 t9 t10 t11 t12 t13 t14 t15 v1 v2 v3 v4 v5 v6 v7 v8 v9 v10 v11 v12 v13 v14 v15 x1 x2 x3 x4 A w) (k : Below w.heap.size w w') (hu : ∃ g h, u = .slice (some ⟨g, 0, none⟩) ll1 ll1 ∧ OwnW w' g h ll1 rs) : UpR W la1 ll1 lc1 rs a1 a2 a3 l1 c1 l2 c2 l3 c3 z1 z2 z3 ph ta1 tl1 tc1 ts L1 L2 L3 L4 bb t0 true t2 t3 t4 t5 t6 t7 t8 t9 t10 t11 t12 t13 t14 t15 v1 u v3 v4 v5 v6 v7 v8 v9 v10 v11 v12 v13 v14 v15 x1 x2 x3 x4 A w' := by
  have K' := K.below k
  exact ⟨K'.bel, K'.e0, (fun _ _ => hu), K'.e2, K'.e3, K'.e4, K'.e5, K'.e6, K'.e7, K'.e8, K'.e9, K'.e10, K'.e11, K'.e12, K'.e14, K'.e15, K'.far, K'.cs1, K'.cl8, K'.cl9, K'.cl10, K'.cl11, K'.cl14, K'.cl15⟩
theorem UpR.step2 {W : World} {la1 : Option Addr} {ll1 lc1 : Nat} {rs : List Wr} {a1 a2 a3 : Option Addr} {l1 c1 l2 c2 l3 c3 : Nat} {z1 z2 z3 : List ByteArray} {ph : Int} {ta1 : Option Addr} {tl1 tc1 : Nat} {ts : List ByteArray} {L1 L2 L3 L4 : List ByteArray} {bb : Bool} {t0 t1 t2 t3 t4 t5 t6 t7 t8 t9 t10 t11 t12 t13 t14 t15 : Bool} {v1 v2 v3 v4 v5 v6 v7 v8 v9 v10 v11 v12 v13 v14 v15 : Value} {x1 x2 x3 x4 : Value} {A : Nat} {w : World} (K : UpR W la1 ll1 lc1 rs a1 a2 a3 l1 c1 l2 c2 l3 c3 z1 z2 z3 ph ta1 tl1 tc1 ts L1 L2 L3 L4 bb t0 t1 t2 t3 t4 t5 t6 t7 t8 t9 t10 t11 t12 t13 t14 t15 v1 v2 v3 v4 v5 v6 v7 v8 v9 v10 v11 v12 v13 v14 v15 x1 x2 x3 x4 A w) : UpR W la1 ll1 lc1 rs a1 a2 a3 l1 c1 l2 c2 l3 c3 z1 z2 z3 ph ta1 tl1 tc1 ts L1 L2 L3 L4 bb t0 t1 true t3 t4 t5 t6 t7 t8 t9 t10 t11 t12 t13 t14 t15 v1 v2 (.agg #[.slice a1 l1 c1, .slice a2 l2 c2, .slice a3 l3 c3]) v4 v5 v6 v7 v8 v9 v10 v11 v12 v13 v14 v15 x1 x2 x3 x4 A w := by
  exact ⟨(K.bel), (K.e0), (K.e1), (fun _ => rfl), (K.e3), (K.e4), (K.e5), (K.e6), (K.e7), (K.e8), (K.e9), (K.e10), (K.e11), (K.e12), (K.e14), (K.e15), (K.far), (K.cs1), (K.cl8), (K.cl9), (K.cl10), (K.cl11), (K.cl14), (K.cl15)⟩
theorem UpR.step3 {W : World} {la1 : Option Addr} {ll1 lc1 : Nat} {rs : List Wr} {a1 a2 a3 : Option Addr} {l1 c1 l2 c2 l3 c3 : Nat} {z1 z2 z3 : List ByteArray} {ph : Int} {ta1 : Option Addr} {tl1 tc1 : Nat} {ts : List ByteArray} {L1 L2 L3 L4 : List ByteArray} {bb : Bool} {t0 t1 t2 t3 t4 t5 t6 t7 t8 t9 t10 t11 t12 t13 t14 t15 : Bool} {v1 v2 v3 v4 v5 v6 v7 v8 v9 v10 v11 v12 v13 v14 v15 : Value} {x1 x2 x3 x4 : Value} {A : Nat} {u : Value} {w w' : World} (K : UpR W la1 ll1 lc1 rs a1 a2 a3 l1 c1 l2 c2 l3 c3 z1 z2 z3 ph ta1 tl1 tc1 ts L1 L2 L3 L4 bb t0 t1 t2 t3 t4 t5 t6 t7 t8 t9 t10 t11 t12 t13 t14 t15 v1 v2 v3 v4 v5 v6 v7 v8 v9 v10 v11 v12 v13 v14 v15 x1 x2 x3 x4 A w) (k : Below w.heap.size w w') (hu : ∃ g1 g2 g3, u = .agg #[.slice (some ⟨g1, 0, none⟩) l1 l1, .slice (some ⟨g2, 0, none⟩) l2 l2, .slice (some ⟨g3, 0, none⟩) l3 l3] ∧ PnIn w' (some ⟨g1, 0, none⟩) (some ⟨g2, 0, none⟩) (some ⟨g3, 0, none⟩) l1 l2 l3 z1 z2 z3) : UpR W la1 ll1 lc1 rs a1 a2 a3 l1 c1 l2 c2 l3 c3 z1 z2 z3 ph ta1 tl1 tc1 ts L1 L2 L3 L4 bb t0 t1 t2 true t4 t5 t6 t7 t8 t9 t10 t11 t12 t13 t14 t15 v1 v2 v3 u v5 v6 v7 v8 v9 v10 v11 v12 v13 v14 v15 x1 x2 x3 x4 A w' := by
  have K' := K.below k
  exact ⟨K'.bel, K'.e0, K'.e1, K'.e2, (fun _ _ => hu), K'.e4, K'.e5, K'.e6, K'.e7, K'.e8, K'.e9, K'.e10, K'.e11, K'.e12, K'.e14, K'.e15, K'.far, K'.cs1, K'.cl8, K'.cl9, K'.cl10, K'.cl11, K'.cl14, K'.cl15⟩
theorem UpR.step4 {W : World} {la1 : Option Addr} {ll1 lc1 : Nat} {rs : List Wr} {a1 a2 a3 : Option Addr} {l1 c1 l2 c2 l3 c3 : Nat} {z1 z2 z3 : List ByteArray} {ph : Int} {ta1 : Option Addr} {tl1 tc1 : Nat} {ts : List ByteArray} {L1 L2 L3 L4 : List ByteArray} {bb : Bool} {t0 t1 t2 t3 t4 t5 t6 t7 t8 t9 t10 t11 t12 t13 t14 t15 : Bool} {v1 v2 v3 v4 v5 v6 v7 v8 v9 v10 v11 v12 v13 v14 v15 : Value} {x1 x2 x3 x4 : Value} {A : Nat} {w : World} (K : UpR W la1 ll1 lc1 rs a1 a2 a3 l1 c1 l2 c2 l3 c3 z1 z2 z3 ph ta1 tl1 tc1 ts L1 L2 L3 L4 bb t0 t1 t2 t3 t4 t5 t6 t7 t8 t9 t10 t11 t12 t13 t14 t15 v1 v2 v3 v4 v5 v6 v7 v8 v9 v10 v11 v12 v13 v14 v15 x1 x2 x3 x4 A w) : UpR W la1 ll1 lc1 rs a1 a2 a3 l1 c1 l2 c2 l3 c3 z1 z2 z3 ph ta1 tl1 tc1 ts L1 L2 L3 L4 bb t0 t1 t2 t3 true t5 t6 t7 t8 t9 t10 t11 t12 t13 t14 t15 v1 v2 v3 v4 (.int .i64 ph) v6 v7 v8 v9 v10 v11 v12 v13 v14 v15 x1 x2 x3 x4 A w := by
  exact ⟨(K.bel), (K.e0), (K.e1), (K.e2), (K.e3), (fun _ => rfl), (K.e5), (K.e6), (K.e7), (K.e8), (K.e9), (K.e10), (K.e11), (K.e12), (K.e14), (K.e15), (K.far), (K.cs1), (K.cl8), (K.cl9), (K.cl10), (K.cl11), (K.cl14), (K.cl15)⟩
theorem UpR.step5 {W : World} {la1 : Option Addr} {ll1 lc1 : Nat} {rs : List Wr} {a1 a2 a3 : Option Addr} {l1 c1 l2 c2 l3 c3 : Nat} {z1 z2 z3 : List ByteArray} {ph : Int} {ta1 : Option Addr} {tl1 tc1 : Nat} {ts : List ByteArray} {L1 L2 L3 L4 : List ByteArray} {bb : Bool} {t0 t1 t2 t3 t4 t5 t6 t7 t8 t9 t10 t11 t12 t13 t14 t15 : Bool} {v1 v2 v3 v4 v5 v6 v7 v8 v9 v10 v11 v12 v13 v14 v15 : Value} {x1 x2 x3 x4 : Value} {A : Nat} {w : World} (K : UpR W la1 ll1 lc1 rs a1 a2 a3 l1 c1 l2 c2 l3 c3 z1 z2 z3 ph ta1 tl1 tc1 ts L1 L2 L3 L4 bb t0 t1 t2 t3 t4 t5 t6 t7 t8 t9 t10 t11 t12 t13 t14 t15 v1 v2 v3 v4 v5 v6 v7 v8 v9 v10 v11 v12 v13 v14 v15 x1 x2 x3 x4 A w) : UpR W la1 ll1 lc1 rs a1 a2 a3 l1 c1 l2 c2 l3 c3 z1 z2 z3 ph ta1 tl1 tc1 ts L1 L2 L3 L4 bb t0 t1 t2 t3 t4 true t6 t7 t8 t9 t10 t11 t12 t13 t14 t15 v1 v2 v3 v4 v5 (.slice ta1 tl1 tc1) v7 v8 v9 v10 v11 v12 v13 v14 v15 x1 x2 x3 x4 A w := by
  exact ⟨(K.bel), (K.e0), (K.e1), (K.e2), (K.e3), (K.e4), (fun _ => rfl), (K.e6), (K.e7), (K.e8), (K.e9), (K.e10), (K.e11), (K.e12), (K.e14), (K.e15), (K.far), (K.cs1), (K.cl8), (K.cl9), (K.cl10), (K.cl11), (K.cl14), (K.cl15)⟩
theorem UpR.step6 {W : World} {la1 : Option Addr} {ll1 lc1 : Nat} {rs : List Wr} {a1 a2 a3 : Option Addr} {l1 c1 l2 c2 l3 c3 : Nat} {z1 z2 z3 : List ByteArray} {ph : Int} {ta1 : Option Addr} {tl1 tc1 : Nat} {ts : List ByteArray} {L1 L2 L3 L4 : List ByteArray} {bb : Bool} {t0 t1 t2 t3 t4 t5 t6 t7 t8 t9 t10 t11 t12 t13 t14 t15 : Bool} {v1 v2 v3 v4 v5 v6 v7 v8 v9 v10 v11 v12 v13 v14 v15 : Value} {x1 x2 x3 x4 : Value} {A : Nat} {u : Value} {w w' : World} (K : UpR W la1 ll1 lc1 rs a1 a2 a3 l1 c1 l2 c2 l3 c3 z1 z2 z3 ph ta1 tl1 tc1 ts L1 L2 L3 L4 bb t0 t1 t2 t3 t4 t5 t6 t7 t8 t9 t10 t11 t12 t13 t14 t15 v1 v2 v3 v4 v5 v6 v7 v8 v9 v10 v11 v12 v13 v14 v15 x1 x2 x3 x4 A w) (k : Below w.heap.size w w') (hu : ∃ g, u = .slice (some ⟨g, 0, none⟩) tl1 tl1 ∧ RowE 1 stC w' (some ⟨g, 0, none⟩) tl1 ts) : UpR W la1 ll1 lc1 rs a1 a2 a3 l1 c1 l2 c2 l3 c3 z1 z2 z3 ph ta1 tl1 tc1 ts L1 L2 L3 L4 bb t0 t1 t2 t3 t4 t5 true t7 t8 t9 t10 t11 t12 t13 t14 t15 v1 v2 v3 v4 v5 v6 u v8 v9 v10 v11 v12 v13 v14 v15 x1 x2 x3 x4 A w' := by
  have K' := K.below k
  exact ⟨K'.bel, K'.e0, K'.e1, K'.e2, K'.e3, K'.e4, K'.e5, (fun _ _ => hu), K'.e7, K'.e8, K'.e9, K'.e10, K'.e11, K'.e12, K'.e14, K'.e15, K'.far, K'.cs1, K'.cl8, K'.cl9, K'.cl10, K'.cl11, K'.cl14, K'.cl15⟩
theorem UpR.step7 {W : World} {la1 : Option Addr} {ll1 lc1 : Nat} {rs : List Wr} {a1 a2 a3 : Option Addr} {l1 c1 l2 c2 l3 c3 : Nat} {z1 z2 z3 : List ByteArray} {ph : Int} {ta1 : Option Addr} {tl1 tc1 : Nat} {ts : List ByteArray} {L1 L2 L3 L4 : List ByteArray} {bb : Bool} {t0 t1 t2 t3 t4 t5 t6 t7 t8 t9 t10 t11 t12 t13 t14 t15 : Bool} {v1 v2 v3 v4 v5 v6 v7 v8 v9 v10 v11 v12 v13 v14 v15 : Value} {x1 x2 x3 x4 : Value} {A : Nat} {y1 y2 y3 y4 : Value} {w w' : World} (K : UpR W la1 ll1 lc1 rs a1 a2 a3 l1 c1 l2 c2 l3 c3 z1 z2 z3 ph ta1 tl1 tc1 ts L1 L2 L3 L4 bb t0 t1 t2 t3 t4 t5 t6 t7 t8 t9 t10 t11 t12 t13 t14 t15 v1 v2 v3 v4 v5 v6 v7 v8 v9 v10 v11 v12 v13 v14 v15 x1 x2 x3 x4 A w) (hf : t7 = false) (k : Below w.heap.size w w') (hn : PnV w' w.heap.size y1 y2 y3 L1 L2 L3 ∧ TxV w' w.heap.size y1 y2 y3 y4 L4) : UpR W la1 ll1 lc1 rs a1 a2 a3 l1 c1 l2 c2 l3 c3 z1 z2 z3 ph ta1 tl1 tc1 ts L1 L2 L3 L4 bb t0 t1 t2 t3 t4 t5 t6 true t8 t9 t10 t11 t12 t13 t14 t15 v1 v2 v3 v4 v5 v6 v7 (.tuple #[.agg #[y1, y2, y3], y4, .bool bb]) v9 v10 v11 v12 v13 v14 v15 y1 y2 y3 y4 A w' := by
  have K' := K.below k
  have ns : t13 = false := by cases c : t13; rfl; have := K.cs1 c; simp_all
  have hu : PnV w' W.heap.size y1 y2 y3 L1 L2 L3 ∧ TxV w' W.heap.size y1 y2 y3 y4 L4 := ⟨hn.1.mono K.bel.size, hn.2.mono K.bel.size⟩
  exact ⟨(K'.bel), (K'.e0), (K'.e1), (K'.e2), (K'.e3), (K'.e4), (K'.e5), (K'.e6), (fun _ => ⟨rfl, hu⟩), (fun h => by have := K.cl8 h; rw [hf] at this; cases this), (fun h => by have := K.cl9 h; rw [hf] at this; cases this), (fun h => by have := K.cl10 h; rw [hf] at this; cases this), (fun h => by have := K.cl11 h; rw [hf] at this; cases this), (fun h => ⟨(K'.e12 h).1, (K'.e12 h).2.1, by have := (K'.e12 h).2.2; rw [ns] at this ⊢; exact this⟩), (fun h => by have := K.cl14 h; rw [hf] at this; cases this), (fun h => by have := K.cl15 h; rw [hf] at this; cases this), (fun _ h => ⟨(hn.1.lies).far (.inl (by have := (K.e12 h).2.2.lt; omega)), fun e => by have := hn.2.lies A e; have := (K.e12 h).2.2.lt; omega⟩), (fun h => by rw [ns] at h; cases h), (fun _ => rfl), (fun _ => rfl), (fun _ => rfl), (fun _ => rfl), (fun _ => rfl), (fun _ => rfl)⟩
theorem UpR.step8 {W : World} {la1 : Option Addr} {ll1 lc1 : Nat} {rs : List Wr} {a1 a2 a3 : Option Addr} {l1 c1 l2 c2 l3 c3 : Nat} {z1 z2 z3 : List ByteArray} {ph : Int} {ta1 : Option Addr} {tl1 tc1 : Nat} {ts : List ByteArray} {L1 L2 L3 L4 : List ByteArray} {bb : Bool} {t0 t1 t2 t3 t4 t5 t6 t7 t8 t9 t10 t11 t12 t13 t14 t15 : Bool} {v1 v2 v3 v4 v5 v6 v7 v8 v9 v10 v11 v12 v13 v14 v15 : Value} {x1 x2 x3 x4 : Value} {A : Nat} {w : World} (hc : t7 = true) (K : UpR W la1 ll1 lc1 rs a1 a2 a3 l1 c1 l2 c2 l3 c3 z1 z2 z3 ph ta1 tl1 tc1 ts L1 L2 L3 L4 bb t0 t1 t2 t3 t4 t5 t6 t7 t8 t9 t10 t11 t12 t13 t14 t15 v1 v2 v3 v4 v5 v6 v7 v8 v9 v10 v11 v12 v13 v14 v15 x1 x2 x3 x4 A w) : UpR W la1 ll1 lc1 rs a1 a2 a3 l1 c1 l2 c2 l3 c3 z1 z2 z3 ph ta1 tl1 tc1 ts L1 L2 L3 L4 bb t0 t1 t2 t3 t4 t5 t6 t7 true t9 t10 t11 t12 t13 t14 t15 v1 v2 v3 v4 v5 v6 v7 v8 (.tuple #[.agg #[x1, x2, x3], x4, .bool bb]) v10 v11 v12 v13 v14 v15 x1 x2 x3 x4 A w := by
  exact ⟨(K.bel), (K.e0), (K.e1), (K.e2), (K.e3), (K.e4), (K.e5), (K.e6), (K.e7), (fun _ => rfl), (K.e9), (K.e10), (K.e11), (K.e12), (K.e14), (K.e15), (K.far), (K.cs1), (fun _ => hc), (K.cl9), (K.cl10), (K.cl11), (K.cl14), (K.cl15)⟩
theorem UpR.step9 {W : World} {la1 : Option Addr} {ll1 lc1 : Nat} {rs : List Wr} {a1 a2 a3 : Option Addr} {l1 c1 l2 c2 l3 c3 : Nat} {z1 z2 z3 : List ByteArray} {ph : Int} {ta1 : Option Addr} {tl1 tc1 : Nat} {ts : List ByteArray} {L1 L2 L3 L4 : List ByteArray} {bb : Bool} {t0 t1 t2 t3 t4 t5 t6 t7 t8 t9 t10 t11 t12 t13 t14 t15 : Bool} {v1 v2 v3 v4 v5 v6 v7 v8 v9 v10 v11 v12 v13 v14 v15 : Value} {x1 x2 x3 x4 : Value} {A : Nat} {w : World} (hc : t7 = true) (K : UpR W la1 ll1 lc1 rs a1 a2 a3 l1 c1 l2 c2 l3 c3 z1 z2 z3 ph ta1 tl1 tc1 ts L1 L2 L3 L4 bb t0 t1 t2 t3 t4 t5 t6 t7 t8 t9 t10 t11 t12 t13 t14 t15 v1 v2 v3 v4 v5 v6 v7 v8 v9 v10 v11 v12 v13 v14 v15 x1 x2 x3 x4 A w) : UpR W la1 ll1 lc1 rs a1 a2 a3 l1 c1 l2 c2 l3 c3 z1 z2 z3 ph ta1 tl1 tc1 ts L1 L2 L3 L4 bb t0 t1 t2 t3 t4 t5 t6 t7 t8 true t10 t11 t12 t13 t14 t15 v1 v2 v3 v4 v5 v6 v7 v8 v9 (.agg #[x1, x2, x3]) v11 v12 v13 v14 v15 x1 x2 x3 x4 A w := by
  exact ⟨(K.bel), (K.e0), (K.e1), (K.e2), (K.e3), (K.e4), (K.e5), (K.e6), (K.e7), (K.e8), (fun _ => rfl), (K.e10), (K.e11), (K.e12), (K.e14), (K.e15), (K.far), (K.cs1), (K.cl8), (fun _ => hc), (K.cl10), (K.cl11), (K.cl14), (K.cl15)⟩
theorem UpR.step10 {W : World} {la1 : Option Addr} {ll1 lc1 : Nat} {rs : List Wr} {a1 a2 a3 : Option Addr} {l1 c1 l2 c2 l3 c3 : Nat} {z1 z2 z3 : List ByteArray} {ph : Int} {ta1 : Option Addr} {tl1 tc1 : Nat} {ts : List ByteArray} {L1 L2 L3 L4 : List ByteArray} {bb : Bool} {t0 t1 t2 t3 t4 t5 t6 t7 t8 t9 t10 t11 t12 t13 t14 t15 : Bool} {v1 v2 v3 v4 v5 v6 v7 v8 v9 v10 v11 v12 v13 v14 v15 : Value} {x1 x2 x3 x4 : Value} {A : Nat} {w : World} (hc : t7 = true) (K : UpR W la1 ll1 lc1 rs a1 a2 a3 l1 c1 l2 c2 l3 c3 z1 z2 z3 ph ta1 tl1 tc1 ts L1 L2 L3 L4 bb t0 t1 t2 t3 t4 t5 t6 t7 t8 t9 t10 t11 t12 t13 t14 t15 v1 v2 v3 v4 v5 v6 v7 v8 v9 v10 v11 v12 v13 v14 v15 x1 x2 x3 x4 A w) : UpR W la1 ll1 lc1 rs a1 a2 a3 l1 c1 l2 c2 l3 c3 z1 z2 z3 ph ta1 tl1 tc1 ts L1 L2 L3 L4 bb t0 t1 t2 t3 t4 t5 t6 t7 t8 t9 true t11 t12 t13 t14 t15 v1 v2 v3 v4 v5 v6 v7 v8 v9 v10 x4 v12 v13 v14 v15 x1 x2 x3 x4 A w := by
  exact ⟨(K.bel), (K.e0), (K.e1), (K.e2), (K.e3), (K.e4), (K.e5), (K.e6), (K.e7), (K.e8), (K.e9), (fun _ => rfl), (K.e11), (K.e12), (K.e14), (K.e15), (K.far), (K.cs1), (K.cl8), (K.cl9), (fun _ => hc), (K.cl11), (K.cl14), (K.cl15)⟩
theorem UpR.step11 {W : World} {la1 : Option Addr} {ll1 lc1 : Nat} {rs : List Wr} {a1 a2 a3 : Option Addr} {l1 c1 l2 c2 l3 c3 : Nat} {z1 z2 z3 : List ByteArray} {ph : Int} {ta1 : Option Addr} {tl1 tc1 : Nat} {ts : List ByteArray} {L1 L2 L3 L4 : List ByteArray} {bb : Bool} {t0 t1 t2 t3 t4 t5 t6 t7 t8 t9 t10 t11 t12 t13 t14 t15 : Bool} {v1 v2 v3 v4 v5 v6 v7 v8 v9 v10 v11 v12 v13 v14 v15 : Value} {x1 x2 x3 x4 : Value} {A : Nat} {w : World} (hc : t7 = true) (K : UpR W la1 ll1 lc1 rs a1 a2 a3 l1 c1 l2 c2 l3 c3 z1 z2 z3 ph ta1 tl1 tc1 ts L1 L2 L3 L4 bb t0 t1 t2 t3 t4 t5 t6 t7 t8 t9 t10 t11 t12 t13 t14 t15 v1 v2 v3 v4 v5 v6 v7 v8 v9 v10 v11 v12 v13 v14 v15 x1 x2 x3 x4 A w) : UpR W la1 ll1 lc1 rs a1 a2 a3 l1 c1 l2 c2 l3 c3 z1 z2 z3 ph ta1 tl1 tc1 ts L1 L2 L3 L4 bb t0 t1 t2 t3 t4 t5 t6 t7 t8 t9 t10 true t12 t13 t14 t15 v1 v2 v3 v4 v5 v6 v7 v8 v9 v10 v11 (.bool bb) v13 v14 v15 x1 x2 x3 x4 A w := by
  exact ⟨(K.bel), (K.e0), (K.e1), (K.e2), (K.e3), (K.e4), (K.e5), (K.e6), (K.e7), (K.e8), (K.e9), (K.e10), (fun _ => rfl), (K.e12), (K.e14), (K.e15), (K.far), (K.cs1), (K.cl8), (K.cl9), (K.cl10), (fun _ => hc), (K.cl14), (K.cl15)⟩
theorem UpR.step12 {W : World} {la1 : Option Addr} {ll1 lc1 : Nat} {rs : List Wr} {a1 a2 a3 : Option Addr} {l1 c1 l2 c2 l3 c3 : Nat} {z1 z2 z3 : List ByteArray} {ph : Int} {ta1 : Option Addr} {tl1 tc1 : Nat} {ts : List ByteArray} {L1 L2 L3 L4 : List ByteArray} {bb : Bool} {t0 t1 t2 t3 t4 t5 t6 t7 t8 t9 t10 t11 t12 t13 t14 t15 : Bool} {v1 v2 v3 v4 v5 v6 v7 v8 v9 v10 v11 v12 v13 v14 v15 : Value} {x1 x2 x3 x4 : Value} {A : Nat} {w : World} (TT : TypeId) (K : UpR W la1 ll1 lc1 rs a1 a2 a3 l1 c1 l2 c2 l3 c3 z1 z2 z3 ph ta1 tl1 tc1 ts L1 L2 L3 L4 bb t0 t1 t2 t3 t4 t5 t6 t7 t8 t9 t10 t11 t12 t13 t14 t15 v1 v2 v3 v4 v5 v6 v7 v8 v9 v10 v11 v12 v13 v14 v15 x1 x2 x3 x4 A w) (hf : t12 = false) : UpR W la1 ll1 lc1 rs a1 a2 a3 l1 c1 l2 c2 l3 c3 z1 z2 z3 ph ta1 tl1 tc1 ts L1 L2 L3 L4 bb t0 t1 t2 t3 t4 t5 t6 t7 t8 t9 t10 t11 true t13 t14 t15 v1 v2 v3 v4 v5 v6 v7 v8 v9 v10 v11 v12 (.pointer (some ⟨w.heap.size, 0, none⟩)) v14 v15 x1 x2 x3 x4 w.heap.size (w.alloc (Obj.cells #[.slice none 0 0, .slice none 0 0, .slice none 0 0] TT)) := by
  have K' := K.below (bel1 (Obj.cells #[.slice none 0 0, .slice none 0 0, .slice none 0 0] TT))
  have ns : t13 = false := by cases c : t13; rfl; have := K.cs1 c; simp_all
  exact ⟨(K'.bel), (K'.e0), (K'.e1), (K'.e2), (K'.e3), (K'.e4), (K'.e5), (K'.e6), (K'.e7), (K'.e8), (K'.e9), (K'.e10), (K'.e11), (fun _ => ⟨rfl, K.bel.size, by rw [ns]; exact Blk.new _ _⟩), (K'.e14), (K'.e15), (fun h _ => ⟨((K.e7 h).2.1.lies).far (.inr (Nat.le_refl _)), fun e => by have := ((K.e7 h).2.2.lies _ e).2; omega⟩), (fun h => by rw [ns] at h; cases h), (K'.cl8), (K'.cl9), (K'.cl10), (K'.cl11), (K'.cl14), (K'.cl15)⟩
theorem UpR.step13 {W : World} {la1 : Option Addr} {ll1 lc1 : Nat} {rs : List Wr} {a1 a2 a3 : Option Addr} {l1 c1 l2 c2 l3 c3 : Nat} {z1 z2 z3 : List ByteArray} {ph : Int} {ta1 : Option Addr} {tl1 tc1 : Nat} {ts : List ByteArray} {L1 L2 L3 L4 : List ByteArray} {bb : Bool} {t0 t1 t2 t3 t4 t5 t6 t7 t8 t9 t10 t11 t12 t13 t14 t15 : Bool} {v1 v2 v3 v4 v5 v6 v7 v8 v9 v10 v11 v12 v13 v14 v15 : Value} {x1 x2 x3 x4 : Value} {A : Nat} {w : World} (K : UpR W la1 ll1 lc1 rs a1 a2 a3 l1 c1 l2 c2 l3 c3 z1 z2 z3 ph ta1 tl1 tc1 ts L1 L2 L3 L4 bb t0 t1 t2 t3 t4 t5 t6 t7 t8 t9 t10 t11 t12 t13 t14 t15 v1 v2 v3 v4 v5 v6 v7 v8 v9 v10 v11 v12 v13 v14 v15 x1 x2 x3 x4 A w) (hf : t13 = false) (hc : t7 = true) (ha : t12 = true) : UpR W la1 ll1 lc1 rs a1 a2 a3 l1 c1 l2 c2 l3 c3 z1 z2 z3 ph ta1 tl1 tc1 ts L1 L2 L3 L4 bb t0 t1 t2 t3 t4 t5 t6 t7 t8 t9 t10 t11 t12 true t14 t15 v1 v2 v3 v4 v5 v6 v7 v8 v9 v10 v11 v12 v13 v14 v15 x1 x2 x3 x4 A (((w.setCell ⟨A, 0, none⟩ x1).setCell ⟨A, 1, none⟩ x2).setCell ⟨A, 2, none⟩ x3) := by
  have hA := K.e12 ha
  have kr := hA.2.2
  rw [hf] at kr
  have fa := K.far hc ha
  exact ⟨(((K.bel.setCell hA.2.1 _).setCell hA.2.1 _).setCell hA.2.1 _), (K.e0), (fun _ h => by cases h), (K.e2), (fun _ h => by cases h), (K.e4), (K.e5), (fun _ h => by cases h), (fun h => ⟨(K.e7 h).1, ⟨(((K.e7 h).2.1.set _ fa.1).set _ fa.1).set _ fa.1, (((K.e7 h).2.2.set _ fa.2).set _ fa.2).set _ fa.2⟩⟩), (K.e8), (K.e9), (K.e10), (K.e11), (fun _ => ⟨hA.1, hA.2.1, ((kr.set 0 (by simp) x1).set 1 (by simp) x2).set 2 (by simp) x3⟩), (K.e14), (K.e15), (K.far), (fun _ => ⟨hc, ha⟩), (K.cl8), (K.cl9), (K.cl10), (K.cl11), (K.cl14), (K.cl15)⟩
theorem UpR.step14 {W : World} {la1 : Option Addr} {ll1 lc1 : Nat} {rs : List Wr} {a1 a2 a3 : Option Addr} {l1 c1 l2 c2 l3 c3 : Nat} {z1 z2 z3 : List ByteArray} {ph : Int} {ta1 : Option Addr} {tl1 tc1 : Nat} {ts : List ByteArray} {L1 L2 L3 L4 : List ByteArray} {bb : Bool} {t0 t1 t2 t3 t4 t5 t6 t7 t8 t9 t10 t11 t12 t13 t14 t15 : Bool} {v1 v2 v3 v4 v5 v6 v7 v8 v9 v10 v11 v12 v13 v14 v15 : Value} {x1 x2 x3 x4 : Value} {A : Nat} {w : World} (hc : t7 = true) (K : UpR W la1 ll1 lc1 rs a1 a2 a3 l1 c1 l2 c2 l3 c3 z1 z2 z3 ph ta1 tl1 tc1 ts L1 L2 L3 L4 bb t0 t1 t2 t3 t4 t5 t6 t7 t8 t9 t10 t11 t12 t13 t14 t15 v1 v2 v3 v4 v5 v6 v7 v8 v9 v10 v11 v12 v13 v14 v15 x1 x2 x3 x4 A w) : UpR W la1 ll1 lc1 rs a1 a2 a3 l1 c1 l2 c2 l3 c3 z1 z2 z3 ph ta1 tl1 tc1 ts L1 L2 L3 L4 bb t0 t1 t2 t3 t4 t5 t6 t7 t8 t9 t10 t11 t12 t13 true t15 v1 v2 v3 v4 v5 v6 v7 v8 v9 v10 v11 v12 v13 x4 v15 x1 x2 x3 x4 A w := by
  exact ⟨(K.bel), (K.e0), (K.e1), (K.e2), (K.e3), (K.e4), (K.e5), (K.e6), (K.e7), (K.e8), (K.e9), (K.e10), (K.e11), (K.e12), (fun _ => rfl), (K.e15), (K.far), (K.cs1), (K.cl8), (K.cl9), (K.cl10), (K.cl11), (fun _ => hc), (K.cl15)⟩
theorem UpR.step15 {W : World} {la1 : Option Addr} {ll1 lc1 : Nat} {rs : List Wr} {a1 a2 a3 : Option Addr} {l1 c1 l2 c2 l3 c3 : Nat} {z1 z2 z3 : List ByteArray} {ph : Int} {ta1 : Option Addr} {tl1 tc1 : Nat} {ts : List ByteArray} {L1 L2 L3 L4 : List ByteArray} {bb : Bool} {t0 t1 t2 t3 t4 t5 t6 t7 t8 t9 t10 t11 t12 t13 t14 t15 : Bool} {v1 v2 v3 v4 v5 v6 v7 v8 v9 v10 v11 v12 v13 v14 v15 : Value} {x1 x2 x3 x4 : Value} {A : Nat} {w : World} (hc : t7 = true) (K : UpR W la1 ll1 lc1 rs a1 a2 a3 l1 c1 l2 c2 l3 c3 z1 z2 z3 ph ta1 tl1 tc1 ts L1 L2 L3 L4 bb t0 t1 t2 t3 t4 t5 t6 t7 t8 t9 t10 t11 t12 t13 t14 t15 v1 v2 v3 v4 v5 v6 v7 v8 v9 v10 v11 v12 v13 v14 v15 x1 x2 x3 x4 A w) : UpR W la1 ll1 lc1 rs a1 a2 a3 l1 c1 l2 c2 l3 c3 z1 z2 z3 ph ta1 tl1 tc1 ts L1 L2 L3 L4 bb t0 t1 t2 t3 t4 t5 t6 t7 t8 t9 t10 t11 t12 t13 t14 true v1 v2 v3 v4 v5 v6 v7 v8 v9 v10 v11 v12 v13 v14 (.bool bb) x1 x2 x3 x4 A w := by
  exact ⟨(K.bel), (K.e0), (K.e1), (K.e2), (K.e3), (K.e4), (K.e5), (K.e6), (K.e7), (K.e8), (K.e9), (K.e10), (K.e11), (K.e12), (K.e14), (fun _ => rfl), (K.far), (K.cs1), (K.cl8), (K.cl9), (K.cl10), (K.cl11), (K.cl14), (fun _ => hc)⟩
def UpRJ (W : World) (la1 : Option Addr) (ll1 lc1 : Nat) (rs : List Wr) (a1 a2 a3 : Option Addr) (l1 c1 l2 c2 l3 c3 : Nat) (z1 z2 z3 : List ByteArray) (ph : Int) (ta1 : Option Addr) (tl1 tc1 : Nat) (ts : List ByteArray) (L1 L2 L3 L4 : List ByteArray) (bb : Bool) (k1 k2 k3 k4 k5 k6 k7 k8 k9 k10 k11 k12 k13 k14 k15 : Nat) (A0 : Act) (l : Nat → Bool) (a : Act) (V : World) : Prop := ∃ (v1 v2 v3 v4 v5 v6 v7 v8 v9 v10 v11 v12 v13 v14 v15 : Value) (x1 x2 x3 x4 : Value) (A : Nat), a = (((((((((((((((A0.put (some k1) v1).put (some k2) v2).put (some k3) v3).put (some k4) v4).put (some k5) v5).put (some k6) v6).put (some k7) v7).put (some k8) v8).put (some k9) v9).put (some k10) v10).put (some k11) v11).put (some k12) v12).put (some k13) v13).put (some k14) v14).put (some k15) v15) ∧ UpR W la1 ll1 lc1 rs a1 a2 a3 l1 c1 l2 c2 l3 c3 z1 z2 z3 ph ta1 tl1 tc1 ts L1 L2 L3 L4 bb (l 0) (l 1) (l 2) (l 3) (l 4) (l 5) (l 6) (l 7) (l 8) (l 9) (l 10) (l 11) (l 12) (l 13) (l 14) (l 15) v1 v2 v3 v4 v5 v6 v7 v8 v9 v10 v11 v12 v13 v14 v15 x1 x2 x3 x4 A V
theorem UpRJ.mk {W : World} {la1 : Option Addr} {ll1 lc1 : Nat} {rs : List Wr} {a1 a2 a3 : Option Addr} {l1 c1 l2 c2 l3 c3 : Nat} {z1 z2 z3 : List ByteArray} {ph : Int} {ta1 : Option Addr} {tl1 tc1 : Nat} {ts : List ByteArray} {L1 L2 L3 L4 : List ByteArray} {bb : Bool} {k1 k2 k3 k4 k5 k6 k7 k8 k9 k10 k11 k12 k13 k14 k15 : Nat} {A0 : Act} {l : Nat → Bool} {a : Act} {V : World} {v1 v2 v3 v4 v5 v6 v7 v8 v9 v10 v11 v12 v13 v14 v15 : Value} {x1 x2 x3 x4 : Value} {A : Nat} (K : UpR W la1 ll1 lc1 rs a1 a2 a3 l1 c1 l2 c2 l3 c3 z1 z2 z3 ph ta1 tl1 tc1 ts L1 L2 L3 L4 bb (l 0) (l 1) (l 2) (l 3) (l 4) (l 5) (l 6) (l 7) (l 8) (l 9) (l 10) (l 11) (l 12) (l 13) (l 14) (l 15) v1 v2 v3 v4 v5 v6 v7 v8 v9 v10 v11 v12 v13 v14 v15 x1 x2 x3 x4 A V) (h : a = (((((((((((((((A0.put (some k1) v1).put (some k2) v2).put (some k3) v3).put (some k4) v4).put (some k5) v5).put (some k6) v6).put (some k7) v7).put (some k8) v8).put (some k9) v9).put (some k10) v10).put (some k11) v11).put (some k12) v12).put (some k13) v13).put (some k14) v14).put (some k15) v15)) : UpRJ W la1 ll1 lc1 rs a1 a2 a3 l1 c1 l2 c2 l3 c3 z1 z2 z3 ph ta1 tl1 tc1 ts L1 L2 L3 L4 bb k1 k2 k3 k4 k5 k6 k7 k8 k9 k10 k11 k12 k13 k14 k15 A0 l a V := ⟨v1, v2, v3, v4, v5, v6, v7, v8, v9, v10, v11, v12, v13, v14, v15, x1, x2, x3, x4, A, h, K⟩

end Go.Proofs.YtbaocifpifbldawGreat

namespace Go.Proofs.YtbaocifpifbldawGreat
open Go

theorem countP_less {p q : Nat → Bool} : ∀ {l : List Nat}, (∀ x, q x = true → p x = true) → (∃ x, x ∈ l ∧ p x = true ∧ q x = false) → l.countP q < l.countP p
  | [], _, ⟨_, h, _⟩ => by cases h
  | y :: l, hpq, ⟨x, hx, h1, h2⟩ => by
    rw [List.countP_cons, List.countP_cons]
    have hle : l.countP q ≤ l.countP p := List.countP_mono_left (fun z _ => hpq z)
    rcases List.mem_cons.1 hx with rfl | hx
    · rw [h1, h2]; simp; omega
    · have ih := countP_less (l := l) hpq ⟨x, hx, h1, h2⟩
      cases hq : q y with
      | false => cases p y <;> simp <;> omega
      | true => rw [hpq y hq]; simp; omega
/-- How many operations are still to be done. -/
def unl (ops : Array Oper) (listed : Array Bool) : Nat := (List.range ops.size).countP fun i => !listed.getD i true
section
variable {P : Program} {ops : Array Oper} {Q : Exit → Act → World → Prop} {md : Region.Mode}
theorem unl_step {listed : Array Bool} {i : Nat} (hi : i < ops.size) (hl : listed.getD i true = false) : unl ops (listed.setIfInBounds i true) < unl ops listed := by
  have hs : i < listed.size := by
    rcases Nat.lt_or_ge i listed.size with h | h
    · exact h
    · simp [Array.getD, Nat.not_lt.2 h] at hl
  refine countP_less (fun x hx => ?_) ⟨i, List.mem_range.2 hi, by rw [hl]; rfl, ?_⟩
  · by_cases e : i = x
    · subst e; rw [hl]; rfl
    · simpa [Array.getD_eq_getD_getElem?, Array.getElem?_setIfInBounds_ne e] using hx
  · simp [Array.getD_eq_getD_getElem?, Array.getElem?_setIfInBounds_self_of_lt hs]
theorem wpAny_inv (I : Array Bool → Act → World → Prop) (hdone : ∀ listed a w, I listed a w → Region.ready md ops listed = [] → Q .normal a w)
    (hstep : ∀ listed a w i, I listed a w → i ∈ Region.ready md ops listed → wpOp P ops Q i (I (listed.setIfInBounds i true)) a w) :
    ∀ (fuel : Nat) (listed : Array Bool) (a : Act) (w : World), unl ops listed ≤ fuel → I listed a w → wpAny P md ops Q fuel listed a w
  | 0, listed, a, w, hu, h => by
    have hr : Region.ready md ops listed = [] := by
      cases hr : Region.ready md ops listed with
      | nil => rfl
      | cons i l =>
        have hm : i ∈ Region.ready md ops listed := by rw [hr]; exact List.mem_cons_self ..
        obtain ⟨h1, o, ho, _⟩ := mem_ready.1 hm
        have := unl_step (ops := ops) (Array.getElem?_eq_some_iff.1 ho).1 h1
        omega
    exact ⟨hr, hdone _ _ _ h hr⟩
  | fuel + 1, listed, a, w, hu, h => by
    refine ⟨fun hr => hdone _ _ _ h hr, fun i hi => ?_⟩
    obtain ⟨h1, o, ho, _⟩ := mem_ready.1 hi
    have hlt := unl_step (ops := ops) (Array.getElem?_eq_some_iff.1 ho).1 h1
    exact wpOp_mono (fun a' w' h' => wpAny_inv I hdone hstep fuel _ a' w' (by omega) h') (hstep _ _ _ _ h hi)
/-- One operation, as a walk of its own. -/
def stepQ (K : Act → World → Prop) : Exit → Act → World → Prop := fun e a w => e = .normal ∧ K a w
theorem wpOp_of_list {i : Nat} {o : Oper} {K : Act → World → Prop} {a : Act} {w : World} (ho : ops[i]? = some o) (h : wpList P ops (stepQ K) [o] a w) : wpOp P ops Q i K a w := by
  unfold wpOp
  simp only [ho]
  unfold wpList at h
  split
  · rename_i hw
    rw [if_pos hw] at h
    rcases h with h | ⟨_, _, _, h, _⟩
    · left
      unfold Oper.wp at *
      generalize (execOp a.eval o).run P w = r at *
      cases r with
      | ok n w' =>
        cases n <;> simp only [Oper.upon] at h ⊢ <;>
          first
            | exact h.2
            | exact Calls.mono h (fun e w'' he => by
                cases e with
                | returned v => exact he.2
                | panicked c => exact absurd he.1 (by simp)
                | outgrown => obtain ⟨_, _, h1, _⟩ := he; exact absurd h1 (by simp))
            | exact Rows.mono h (fun _ _ he => he.2)
      | halt x w' =>
        cases x <;> simp only [Oper.upon] at h ⊢ <;> first | exact absurd h.1 (by simp) | exact h
    · cases h
  · rename_i hw
    rw [if_neg hw] at h
    exact h.2
theorem wp_region_inv {id : Nat} {a : Act} {w : World} (hm : P.follows .mixedOrders = true) (I : Array Bool → Act → World → Prop) (h0 : I (Array.replicate ops.size false) a { w with drawn := w.drawn + 1 })
    (hdone : ∀ listed a w, I listed a w → Region.ready .any ops listed = [] → Q .normal a w)
    (hstep : ∀ listed a w i, I listed a w → i ∈ Region.ready .any ops listed → wpOp P ops Q i (I (listed.setIfInBounds i true)) a w) : (Code.region id ops true).wp P Q a w :=
  wp_region_any hm (wpAny_inv I hdone hstep _ _ _ _ (by
    unfold unl
    exact Nat.le_trans List.countP_le_length (by simp)) h0)
end

/-- Every operation waits only for ones ahead of it. -/
def backB (ops : Array Oper) : Bool := (List.range ops.size).all fun i => match ops[i]? with | some o => o.after.all (fun e => !Region.binds .any e || decide (e.on < i)) | none => true
theorem backB_at {ops : Array Oper} (h : backB ops = true) {i : Nat} {o : Oper} (ho : ops[i]? = some o) : ∀ e ∈ o.after, Region.binds .any e = true → e.on < i := by
  have hi : i < ops.size := (Array.getElem?_eq_some_iff.1 ho).1
  have := List.all_eq_true.1 h i (List.mem_range.2 hi)
  simp only [ho] at this
  intro e he hb
  have := Array.all_eq_true_iff_forall_mem.1 this e he
  rw [hb] at this
  simpa using this
theorem all_listed {ops : Array Oper} {listed : Array Bool} (hB : backB ops = true) (hs : listed.size = ops.size) (hr : Region.ready .any ops listed = []) : ∀ i, i < ops.size → listed.getD i false = true := by
  intro i
  induction i using Nat.strongRecOn with
  | ind i ih =>
    intro hi
    cases hl : listed.getD i false with
    | true => rfl
    | false =>
      exfalso
      have ho : ops[i]? = some ops[i] := by simp [hi]
      have hl2 : listed.getD i true = false := by
        have : i < listed.size := by omega
        simpa [Array.getD, this] using hl
      have : i ∈ Region.ready .any ops listed := mem_ready.2 ⟨hl2, ops[i], ho, fun e he hb => ih e.on (backB_at hB ho e he hb) (by have := backB_at hB ho e he hb; omega)⟩
      rw [hr] at this
      cases this
/-- The same by flags: which operations are done. -/
theorem wp_region_flags {P : Program} {ops : Array Oper} {Q : Exit → Act → World → Prop} {id : Nat} {a : Act} {w : World} (hm : P.follows .mixedOrders = true) (hB : backB ops = true) (J : (Nat → Bool) → Act → World → Prop) (h0 : J (fun _ => false) a { w with drawn := w.drawn + 1 })
    (hdone : ∀ l a w, (∀ i, i < ops.size → l i = true) → J l a w → Q .normal a w)
    (hstep : ∀ l a w i o, ops[i]? = some o → l i = false → (∀ e ∈ o.after, Region.binds .any e = true → l e.on = true) → J l a w → wpList P ops (stepQ (J (fun j => decide (j = i) || l j))) [o] a w) : (Code.region id ops true).wp P Q a w := by
  refine wp_region_inv hm (fun listed a w => listed.size = ops.size ∧ J (fun i => listed.getD i false) a w) ⟨by simp, ?_⟩ (fun listed a w h hr => hdone _ a w (all_listed hB h.1 hr) h.2) (fun listed a w i h hi => ?_)
  · have e : (fun i => (Array.replicate ops.size false).getD i false) = fun _ => false := by
      funext i
      by_cases c : i < ops.size <;> simp [Array.getD, c]
    rw [e]; exact h0
  · obtain ⟨h1, o, ho, hd⟩ := mem_ready.1 hi
    have hlt : i < listed.size := by have := (Array.getElem?_eq_some_iff.1 ho).1; omega
    have e : (fun j => (listed.setIfInBounds i true).getD j false) = fun j => decide (j = i) || listed.getD j false := by
      funext j
      by_cases c : j = i
      · subst c; simp [Array.getD_eq_getD_getElem?, Array.getElem?_setIfInBounds_self_of_lt hlt]
      · simp [Array.getD_eq_getD_getElem?, Array.getElem?_setIfInBounds_ne (Ne.symm c), c]
    refine wpOp_mono (fun a' w' h' => ⟨by rw [Array.size_setIfInBounds]; exact h.1, ?_⟩) (wpOp_of_list ho (hstep _ a w i o ho (by simpa [Array.getD, hlt] using h1) hd h.2))
    show J (fun j => (listed.setIfInBounds i true).getD j false) a' w'
    rw [e]; exact h'
/-- The same, with the frame at the region's head handed to the invariant. -/
theorem wp_region_flagsA {P : Program} {ops : Array Oper} {Q : Exit → Act → World → Prop} {id : Nat} {a : Act} {w : World} (hm : P.follows .mixedOrders = true) (hB : backB ops = true) (J : Act → (Nat → Bool) → Act → World → Prop) (h0 : J a (fun _ => false) a { w with drawn := w.drawn + 1 })
    (hdone : ∀ l b v, (∀ i, i < ops.size → l i = true) → J a l b v → Q .normal b v)
    (hstep : ∀ l b v i o, ops[i]? = some o → l i = false → (∀ e ∈ o.after, Region.binds .any e = true → l e.on = true) → J a l b v → wpList P ops (stepQ (J a (fun j => decide (j = i) || l j))) [o] b v) : (Code.region id ops true).wp P Q a w :=
  wp_region_flags hm hB (J a) h0 hdone hstep

end Go.Proofs.YtbaocifpifbldawGreat

namespace Go.Proofs.YtbaocifpifbldawGreat
open Go.RowKit

structure EqR (W : World) (xv pv : Value) (l1 l2 l3 : Nat) (z1 z2 z3 : List ByteArray) (t0 t1 t2 t3 t4 : Bool) (v1 v2 v3 v4 v5 : Value) (w : World) : Prop where
  bel : Below W.heap.size W w
  e0 : t0 = true → v1 = xv
  e1 : t1 = true → v2 = pv
  e2 : t2 = true → ∃ g1 g2 g3, v3 = .agg #[.slice (some ⟨g1, 0, none⟩) l1 l1, .slice (some ⟨g2, 0, none⟩) l2 l2, .slice (some ⟨g3, 0, none⟩) l3 l3] ∧ PnIn w (some ⟨g1, 0, none⟩) (some ⟨g2, 0, none⟩) (some ⟨g3, 0, none⟩) l1 l2 l3 z1 z2 z3
  e3 : t3 = true → v4 = .bool true
  e4 : t4 = true → v5 = .bool false
theorem EqR.below {W : World} {xv pv : Value} {l1 l2 l3 : Nat} {z1 z2 z3 : List ByteArray} {t0 t1 t2 t3 t4 : Bool} {v1 v2 v3 v4 v5 : Value} {w w' : World} (K : EqR W xv pv l1 l2 l3 z1 z2 z3 t0 t1 t2 t3 t4 v1 v2 v3 v4 v5 w) (k : Below w.heap.size w w') : EqR W xv pv l1 l2 l3 z1 z2 z3 t0 t1 t2 t3 t4 v1 v2 v3 v4 v5 w' :=
  ⟨K.bel.trans (k.mono K.bel.size), K.e0, K.e1, fun h => by obtain ⟨g1, g2, g3, e, q⟩ := K.e2 h; exact ⟨g1, g2, g3, e, q.below k⟩, K.e3, K.e4⟩
def EqRJ (W : World) (xv pv : Value) (l1 l2 l3 : Nat) (z1 z2 z3 : List ByteArray) (k1 k2 k3 k4 k5 : Nat) (A0 : Act) (l : Nat → Bool) (a : Act) (V : World) : Prop := ∃ v1 v2 v3 v4 v5, a = (((((A0.put (some k1) v1).put (some k2) v2).put (some k3) v3).put (some k4) v4).put (some k5) v5) ∧ EqR W xv pv l1 l2 l3 z1 z2 z3 (l 0) (l 1) (l 2) (l 3) (l 4) v1 v2 v3 v4 v5 V
theorem EqRJ.mk {W : World} {xv pv : Value} {l1 l2 l3 : Nat} {z1 z2 z3 : List ByteArray} {k1 k2 k3 k4 k5 : Nat} {A0 : Act} {l : Nat → Bool} {a : Act} {V : World} {v1 v2 v3 v4 v5 : Value} (K : EqR W xv pv l1 l2 l3 z1 z2 z3 (l 0) (l 1) (l 2) (l 3) (l 4) v1 v2 v3 v4 v5 V) (h : a = (((((A0.put (some k1) v1).put (some k2) v2).put (some k3) v3).put (some k4) v4).put (some k5) v5)) : EqRJ W xv pv l1 l2 l3 z1 z2 z3 k1 k2 k3 k4 k5 A0 l a V := ⟨v1, v2, v3, v4, v5, h, K⟩

end Go.Proofs.YtbaocifpifbldawGreat
