/-
  A panel copied: each list appended to a new one, in memory of its own. Nothing that was there is written. (A region that draws its order, by an invariant.)
-/
import Derived.Test.YtfehfocfoegbdaaPnTo
import Derived.Test.YtfehfocfoegbdaaMWhole
import Derived.Test.YtfehfocfoegbdaaRegInv
import Derived.Test.YtfehfocfoegbdaaAppSt
import Derived.Test.YtfehfocfoegbdaaMWrLou
namespace Go.Proofs.Ytfehfocfoegbdaa
open Go.RowKit

structure CpyI (W0 : World) (B R : Nat) (a1 a2 a3 : Option Addr) (l1 c1 l2 c2 l3 c3 : Nat) (z1 z2 z3 : List ByteArray) (t0 t1 t2 t3 t4 t5 t6 t7 t8 t9 t10 t11 t12 t13 : Bool) (v3 v4 v5 v6 v7 v8 v9 v10 v11 v12 v13 v14 v15 : Value) (w : World) : Prop where
  bel : Below W0.heap.size W0 w
  lb : W0.heap.size ≤ B
  lr : W0.heap.size ≤ R
  ne : B ≠ R
  inp : PnIn W0 a1 a2 a3 l1 l2 l3 z1 z2 z3
  kb : Blk w B [.slice a1 l1 c1, .slice a2 l2 c2, .slice a3 l3 c3]
  kr : Blk w R (bif t13 then [v6, v10, v14] else [.slice none 0 0, .slice none 0 0, .slice none 0 0])
  bs0 : t0 = true → (t3 = false → ∃ g, v3 = .slice (some ⟨g, 0, none⟩) 0 0 ∧ OwnE 1 stC w W0.heap.size 9 v3 [] ∧ g ≠ R ∧ g ≠ B)
  fa0 : t1 = true → v4 = .pointer (some ⟨B, 0, none⟩)
  ld0 : t2 = true → v5 = .slice a1 l1 c1
  ow0 : t3 = true → (∃ g c, v6 = .slice (some ⟨g, 0, none⟩) l1 c ∧ g ≠ R ∧ g ≠ B) ∧ OwnE 1 stC w W0.heap.size 9 v6 z1
  bs1 : t4 = true → (t7 = false → ∃ g, v7 = .slice (some ⟨g, 0, none⟩) 0 0 ∧ OwnE 1 stC w W0.heap.size 9 v7 [] ∧ g ≠ R ∧ g ≠ B)
  fa1 : t5 = true → v8 = .pointer (some ⟨B, 1, none⟩)
  ld1 : t6 = true → v9 = .slice a2 l2 c2
  ow1 : t7 = true → (∃ g c, v10 = .slice (some ⟨g, 0, none⟩) l2 c ∧ g ≠ R ∧ g ≠ B) ∧ OwnE 1 stC w W0.heap.size 9 v10 z2
  bs2 : t8 = true → (t11 = false → ∃ g, v11 = .slice (some ⟨g, 0, none⟩) 0 0 ∧ OwnE 1 stC w W0.heap.size 9 v11 [] ∧ g ≠ R ∧ g ≠ B)
  fa2 : t9 = true → v12 = .pointer (some ⟨B, 2, none⟩)
  ld2 : t10 = true → v13 = .slice a3 l3 c3
  ow2 : t11 = true → (∃ g c, v14 = .slice (some ⟨g, 0, none⟩) l3 c ∧ g ≠ R ∧ g ≠ B) ∧ OwnE 1 stC w W0.heap.size 9 v14 z3
  bb01 : t0 = true → t3 = false → t4 = true → t7 = false → ∀ g, v3.ownBlock = some g → v7.ownBlock ≠ some g
  aa01 : t3 = true → t7 = true → ∀ g, v6.ownBlock = some g → v10.ownBlock ≠ some g
  ba01 : t0 = true → t3 = false → t7 = true → ∀ g, v3.ownBlock = some g → v10.ownBlock ≠ some g
  ab01 : t3 = true → t4 = true → t7 = false → ∀ g, v6.ownBlock = some g → v7.ownBlock ≠ some g
  bb02 : t0 = true → t3 = false → t8 = true → t11 = false → ∀ g, v3.ownBlock = some g → v11.ownBlock ≠ some g
  aa02 : t3 = true → t11 = true → ∀ g, v6.ownBlock = some g → v14.ownBlock ≠ some g
  ba02 : t0 = true → t3 = false → t11 = true → ∀ g, v3.ownBlock = some g → v14.ownBlock ≠ some g
  ab02 : t3 = true → t8 = true → t11 = false → ∀ g, v6.ownBlock = some g → v11.ownBlock ≠ some g
  bb12 : t4 = true → t7 = false → t8 = true → t11 = false → ∀ g, v7.ownBlock = some g → v11.ownBlock ≠ some g
  aa12 : t7 = true → t11 = true → ∀ g, v10.ownBlock = some g → v14.ownBlock ≠ some g
  ba12 : t4 = true → t7 = false → t11 = true → ∀ g, v7.ownBlock = some g → v14.ownBlock ≠ some g
  ab12 : t7 = true → t8 = true → t11 = false → ∀ g, v10.ownBlock = some g → v11.ownBlock ≠ some g
  cl12 : t12 = true → t3 = true ∧ t7 = true ∧ t11 = true
  cl13 : t13 = true → t12 = true
  bd : t12 = true → v15 = .agg #[v6, v10, v14]
theorem CpyI.step1 {W0 : World} {B R : Nat} {a1 a2 a3 : Option Addr} {l1 c1 l2 c2 l3 c3 : Nat} {z1 z2 z3 : List ByteArray} {t0 t1 t2 t3 t4 t5 t6 t7 t8 t9 t10 t11 t12 t13 : Bool} {v3 v4 v5 v6 v7 v8 v9 v10 v11 v12 v13 v14 v15 : Value} {w : World} (K : CpyI W0 B R a1 a2 a3 l1 c1 l2 c2 l3 c3 z1 z2 z3 t0 t1 t2 t3 t4 t5 t6 t7 t8 t9 t10 t11 t12 t13 v3 v4 v5 v6 v7 v8 v9 v10 v11 v12 v13 v14 v15 w) : CpyI W0 B R a1 a2 a3 l1 c1 l2 c2 l3 c3 z1 z2 z3 t0 true t2 t3 t4 t5 t6 t7 t8 t9 t10 t11 t12 t13 v3 (.pointer (some ⟨B, 0, none⟩)) v5 v6 v7 v8 v9 v10 v11 v12 v13 v14 v15 w := by
  exact ⟨K.bel, K.lb, K.lr, K.ne, K.inp, K.kb, K.kr, K.bs0, fun _ => rfl, K.ld0, K.ow0, K.bs1, K.fa1, K.ld1, K.ow1, K.bs2, K.fa2, K.ld2, K.ow2, K.bb01, K.aa01, K.ba01, K.ab01, K.bb02, K.aa02, K.ba02, K.ab02, K.bb12, K.aa12, K.ba12, K.ab12, K.cl12, K.cl13, K.bd⟩
theorem CpyI.step2 {W0 : World} {B R : Nat} {a1 a2 a3 : Option Addr} {l1 c1 l2 c2 l3 c3 : Nat} {z1 z2 z3 : List ByteArray} {t0 t1 t2 t3 t4 t5 t6 t7 t8 t9 t10 t11 t12 t13 : Bool} {v3 v4 v5 v6 v7 v8 v9 v10 v11 v12 v13 v14 v15 : Value} {w : World} (K : CpyI W0 B R a1 a2 a3 l1 c1 l2 c2 l3 c3 z1 z2 z3 t0 t1 t2 t3 t4 t5 t6 t7 t8 t9 t10 t11 t12 t13 v3 v4 v5 v6 v7 v8 v9 v10 v11 v12 v13 v14 v15 w) : CpyI W0 B R a1 a2 a3 l1 c1 l2 c2 l3 c3 z1 z2 z3 t0 t1 true t3 t4 t5 t6 t7 t8 t9 t10 t11 t12 t13 v3 v4 (.slice a1 l1 c1) v6 v7 v8 v9 v10 v11 v12 v13 v14 v15 w := by
  exact ⟨K.bel, K.lb, K.lr, K.ne, K.inp, K.kb, K.kr, K.bs0, K.fa0, fun _ => rfl, K.ow0, K.bs1, K.fa1, K.ld1, K.ow1, K.bs2, K.fa2, K.ld2, K.ow2, K.bb01, K.aa01, K.ba01, K.ab01, K.bb02, K.aa02, K.ba02, K.ab02, K.bb12, K.aa12, K.ba12, K.ab12, K.cl12, K.cl13, K.bd⟩
theorem CpyI.step5 {W0 : World} {B R : Nat} {a1 a2 a3 : Option Addr} {l1 c1 l2 c2 l3 c3 : Nat} {z1 z2 z3 : List ByteArray} {t0 t1 t2 t3 t4 t5 t6 t7 t8 t9 t10 t11 t12 t13 : Bool} {v3 v4 v5 v6 v7 v8 v9 v10 v11 v12 v13 v14 v15 : Value} {w : World} (K : CpyI W0 B R a1 a2 a3 l1 c1 l2 c2 l3 c3 z1 z2 z3 t0 t1 t2 t3 t4 t5 t6 t7 t8 t9 t10 t11 t12 t13 v3 v4 v5 v6 v7 v8 v9 v10 v11 v12 v13 v14 v15 w) : CpyI W0 B R a1 a2 a3 l1 c1 l2 c2 l3 c3 z1 z2 z3 t0 t1 t2 t3 t4 true t6 t7 t8 t9 t10 t11 t12 t13 v3 v4 v5 v6 v7 (.pointer (some ⟨B, 1, none⟩)) v9 v10 v11 v12 v13 v14 v15 w := by
  exact ⟨K.bel, K.lb, K.lr, K.ne, K.inp, K.kb, K.kr, K.bs0, K.fa0, K.ld0, K.ow0, K.bs1, fun _ => rfl, K.ld1, K.ow1, K.bs2, K.fa2, K.ld2, K.ow2, K.bb01, K.aa01, K.ba01, K.ab01, K.bb02, K.aa02, K.ba02, K.ab02, K.bb12, K.aa12, K.ba12, K.ab12, K.cl12, K.cl13, K.bd⟩
theorem CpyI.step6 {W0 : World} {B R : Nat} {a1 a2 a3 : Option Addr} {l1 c1 l2 c2 l3 c3 : Nat} {z1 z2 z3 : List ByteArray} {t0 t1 t2 t3 t4 t5 t6 t7 t8 t9 t10 t11 t12 t13 : Bool} {v3 v4 v5 v6 v7 v8 v9 v10 v11 v12 v13 v14 v15 : Value} {w : World} (K : CpyI W0 B R a1 a2 a3 l1 c1 l2 c2 l3 c3 z1 z2 z3 t0 t1 t2 t3 t4 t5 t6 t7 t8 t9 t10 t11 t12 t13 v3 v4 v5 v6 v7 v8 v9 v10 v11 v12 v13 v14 v15 w) : CpyI W0 B R a1 a2 a3 l1 c1 l2 c2 l3 c3 z1 z2 z3 t0 t1 t2 t3 t4 t5 true t7 t8 t9 t10 t11 t12 t13 v3 v4 v5 v6 v7 v8 (.slice a2 l2 c2) v10 v11 v12 v13 v14 v15 w := by
  exact ⟨K.bel, K.lb, K.lr, K.ne, K.inp, K.kb, K.kr, K.bs0, K.fa0, K.ld0, K.ow0, K.bs1, K.fa1, fun _ => rfl, K.ow1, K.bs2, K.fa2, K.ld2, K.ow2, K.bb01, K.aa01, K.ba01, K.ab01, K.bb02, K.aa02, K.ba02, K.ab02, K.bb12, K.aa12, K.ba12, K.ab12, K.cl12, K.cl13, K.bd⟩
theorem CpyI.step9 {W0 : World} {B R : Nat} {a1 a2 a3 : Option Addr} {l1 c1 l2 c2 l3 c3 : Nat} {z1 z2 z3 : List ByteArray} {t0 t1 t2 t3 t4 t5 t6 t7 t8 t9 t10 t11 t12 t13 : Bool} {v3 v4 v5 v6 v7 v8 v9 v10 v11 v12 v13 v14 v15 : Value} {w : World} (K : CpyI W0 B R a1 a2 a3 l1 c1 l2 c2 l3 c3 z1 z2 z3 t0 t1 t2 t3 t4 t5 t6 t7 t8 t9 t10 t11 t12 t13 v3 v4 v5 v6 v7 v8 v9 v10 v11 v12 v13 v14 v15 w) : CpyI W0 B R a1 a2 a3 l1 c1 l2 c2 l3 c3 z1 z2 z3 t0 t1 t2 t3 t4 t5 t6 t7 t8 true t10 t11 t12 t13 v3 v4 v5 v6 v7 v8 v9 v10 v11 (.pointer (some ⟨B, 2, none⟩)) v13 v14 v15 w := by
  exact ⟨K.bel, K.lb, K.lr, K.ne, K.inp, K.kb, K.kr, K.bs0, K.fa0, K.ld0, K.ow0, K.bs1, K.fa1, K.ld1, K.ow1, K.bs2, fun _ => rfl, K.ld2, K.ow2, K.bb01, K.aa01, K.ba01, K.ab01, K.bb02, K.aa02, K.ba02, K.ab02, K.bb12, K.aa12, K.ba12, K.ab12, K.cl12, K.cl13, K.bd⟩
theorem CpyI.step10 {W0 : World} {B R : Nat} {a1 a2 a3 : Option Addr} {l1 c1 l2 c2 l3 c3 : Nat} {z1 z2 z3 : List ByteArray} {t0 t1 t2 t3 t4 t5 t6 t7 t8 t9 t10 t11 t12 t13 : Bool} {v3 v4 v5 v6 v7 v8 v9 v10 v11 v12 v13 v14 v15 : Value} {w : World} (K : CpyI W0 B R a1 a2 a3 l1 c1 l2 c2 l3 c3 z1 z2 z3 t0 t1 t2 t3 t4 t5 t6 t7 t8 t9 t10 t11 t12 t13 v3 v4 v5 v6 v7 v8 v9 v10 v11 v12 v13 v14 v15 w) : CpyI W0 B R a1 a2 a3 l1 c1 l2 c2 l3 c3 z1 z2 z3 t0 t1 t2 t3 t4 t5 t6 t7 t8 t9 true t11 t12 t13 v3 v4 v5 v6 v7 v8 v9 v10 v11 v12 (.slice a3 l3 c3) v14 v15 w := by
  exact ⟨K.bel, K.lb, K.lr, K.ne, K.inp, K.kb, K.kr, K.bs0, K.fa0, K.ld0, K.ow0, K.bs1, K.fa1, K.ld1, K.ow1, K.bs2, K.fa2, fun _ => rfl, K.ow2, K.bb01, K.aa01, K.ba01, K.ab01, K.bb02, K.aa02, K.ba02, K.ab02, K.bb12, K.aa12, K.ba12, K.ab12, K.cl12, K.cl13, K.bd⟩
theorem CpyI.step0 {W0 : World} {B R : Nat} {a1 a2 a3 : Option Addr} {l1 c1 l2 c2 l3 c3 : Nat} {z1 z2 z3 : List ByteArray} {t0 t1 t2 t3 t4 t5 t6 t7 t8 t9 t10 t11 t12 t13 : Bool} {v3 v4 v5 v6 v7 v8 v9 v10 v11 v12 v13 v14 v15 : Value} {w : World} (K : CpyI W0 B R a1 a2 a3 l1 c1 l2 c2 l3 c3 z1 z2 z3 t0 t1 t2 t3 t4 t5 t6 t7 t8 t9 t10 t11 t12 t13 v3 v4 v5 v6 v7 v8 v9 v10 v11 v12 v13 v14 v15 w) : CpyI W0 B R a1 a2 a3 l1 c1 l2 c2 l3 c3 z1 z2 z3 true t1 t2 t3 t4 t5 t6 t7 t8 t9 t10 t11 t12 t13 (.slice (some ⟨w.heap.size, 0, none⟩) 0 0) v4 v5 v6 v7 v8 v9 v10 v11 v12 v13 v14 v15 (w.alloc (Obj.cells #[] 9)) := by
  exact ⟨(K.bel.trans ((bel1 _).mono K.bel.size)), K.lb, K.lr, K.ne, K.inp, (K.kb.alloc _), (K.kr.alloc _), (fun _ _ => ⟨_, rfl, stE_none K.bel.size, by have := K.kr.lt; omega, by have := K.kb.lt; omega⟩), K.fa0, K.ld0, (fun h => ⟨(K.ow0 h).1, (K.ow0 h).2.below (bel1 _)⟩), (fun h h' => by obtain ⟨g, e1, e2, e3⟩ := K.bs1 h h'; exact ⟨g, e1, e2.below (bel1 _), e3⟩), K.fa1, K.ld1, (fun h => ⟨(K.ow1 h).1, (K.ow1 h).2.below (bel1 _)⟩), (fun h h' => by obtain ⟨g, e1, e2, e3⟩ := K.bs2 h h'; exact ⟨g, e1, e2.below (bel1 _), e3⟩), K.fa2, K.ld2, (fun h => ⟨(K.ow2 h).1, (K.ow2 h).2.below (bel1 _)⟩), (fun _ _ h h' g hg e => by have hg : w.heap.size = g := Option.some.inj hg; obtain ⟨g', e1, e2, _⟩ := K.bs1 h h'; have := (e2.lies g e).2; omega), K.aa01, (fun _ _ h g hg e => by have hg : w.heap.size = g := Option.some.inj hg; have := ((K.ow1 h).2.lies g e).2; omega), K.ab01, (fun _ _ h h' g hg e => by have hg : w.heap.size = g := Option.some.inj hg; obtain ⟨g', e1, e2, _⟩ := K.bs2 h h'; have := (e2.lies g e).2; omega), K.aa02, (fun _ _ h g hg e => by have hg : w.heap.size = g := Option.some.inj hg; have := ((K.ow2 h).2.lies g e).2; omega), K.ab02, K.bb12, K.aa12, K.ba12, K.ab12, K.cl12, K.cl13, K.bd⟩
theorem CpyI.step4 {W0 : World} {B R : Nat} {a1 a2 a3 : Option Addr} {l1 c1 l2 c2 l3 c3 : Nat} {z1 z2 z3 : List ByteArray} {t0 t1 t2 t3 t4 t5 t6 t7 t8 t9 t10 t11 t12 t13 : Bool} {v3 v4 v5 v6 v7 v8 v9 v10 v11 v12 v13 v14 v15 : Value} {w : World} (K : CpyI W0 B R a1 a2 a3 l1 c1 l2 c2 l3 c3 z1 z2 z3 t0 t1 t2 t3 t4 t5 t6 t7 t8 t9 t10 t11 t12 t13 v3 v4 v5 v6 v7 v8 v9 v10 v11 v12 v13 v14 v15 w) : CpyI W0 B R a1 a2 a3 l1 c1 l2 c2 l3 c3 z1 z2 z3 t0 t1 t2 t3 true t5 t6 t7 t8 t9 t10 t11 t12 t13 v3 v4 v5 v6 (.slice (some ⟨w.heap.size, 0, none⟩) 0 0) v8 v9 v10 v11 v12 v13 v14 v15 (w.alloc (Obj.cells #[] 9)) := by
  exact ⟨(K.bel.trans ((bel1 _).mono K.bel.size)), K.lb, K.lr, K.ne, K.inp, (K.kb.alloc _), (K.kr.alloc _), (fun h h' => by obtain ⟨g, e1, e2, e3⟩ := K.bs0 h h'; exact ⟨g, e1, e2.below (bel1 _), e3⟩), K.fa0, K.ld0, (fun h => ⟨(K.ow0 h).1, (K.ow0 h).2.below (bel1 _)⟩), (fun _ _ => ⟨_, rfl, stE_none K.bel.size, by have := K.kr.lt; omega, by have := K.kb.lt; omega⟩), K.fa1, K.ld1, (fun h => ⟨(K.ow1 h).1, (K.ow1 h).2.below (bel1 _)⟩), (fun h h' => by obtain ⟨g, e1, e2, e3⟩ := K.bs2 h h'; exact ⟨g, e1, e2.below (bel1 _), e3⟩), K.fa2, K.ld2, (fun h => ⟨(K.ow2 h).1, (K.ow2 h).2.below (bel1 _)⟩), (fun h h' _ _ g hg e => by have e : w.heap.size = g := Option.some.inj e; obtain ⟨g', e1, e2, _⟩ := K.bs0 h h'; have := (e2.lies g hg).2; omega), K.aa01, K.ba01, (fun h _ _ g hg e => by have e : w.heap.size = g := Option.some.inj e; have := ((K.ow0 h).2.lies g hg).2; omega), K.bb02, K.aa02, K.ba02, K.ab02, (fun _ _ h h' g hg e => by have hg : w.heap.size = g := Option.some.inj hg; obtain ⟨g', e1, e2, _⟩ := K.bs2 h h'; have := (e2.lies g e).2; omega), K.aa12, (fun _ _ h g hg e => by have hg : w.heap.size = g := Option.some.inj hg; have := ((K.ow2 h).2.lies g e).2; omega), K.ab12, K.cl12, K.cl13, K.bd⟩
theorem CpyI.step8 {W0 : World} {B R : Nat} {a1 a2 a3 : Option Addr} {l1 c1 l2 c2 l3 c3 : Nat} {z1 z2 z3 : List ByteArray} {t0 t1 t2 t3 t4 t5 t6 t7 t8 t9 t10 t11 t12 t13 : Bool} {v3 v4 v5 v6 v7 v8 v9 v10 v11 v12 v13 v14 v15 : Value} {w : World} (K : CpyI W0 B R a1 a2 a3 l1 c1 l2 c2 l3 c3 z1 z2 z3 t0 t1 t2 t3 t4 t5 t6 t7 t8 t9 t10 t11 t12 t13 v3 v4 v5 v6 v7 v8 v9 v10 v11 v12 v13 v14 v15 w) : CpyI W0 B R a1 a2 a3 l1 c1 l2 c2 l3 c3 z1 z2 z3 t0 t1 t2 t3 t4 t5 t6 t7 true t9 t10 t11 t12 t13 v3 v4 v5 v6 v7 v8 v9 v10 (.slice (some ⟨w.heap.size, 0, none⟩) 0 0) v12 v13 v14 v15 (w.alloc (Obj.cells #[] 9)) := by
  exact ⟨(K.bel.trans ((bel1 _).mono K.bel.size)), K.lb, K.lr, K.ne, K.inp, (K.kb.alloc _), (K.kr.alloc _), (fun h h' => by obtain ⟨g, e1, e2, e3⟩ := K.bs0 h h'; exact ⟨g, e1, e2.below (bel1 _), e3⟩), K.fa0, K.ld0, (fun h => ⟨(K.ow0 h).1, (K.ow0 h).2.below (bel1 _)⟩), (fun h h' => by obtain ⟨g, e1, e2, e3⟩ := K.bs1 h h'; exact ⟨g, e1, e2.below (bel1 _), e3⟩), K.fa1, K.ld1, (fun h => ⟨(K.ow1 h).1, (K.ow1 h).2.below (bel1 _)⟩), (fun _ _ => ⟨_, rfl, stE_none K.bel.size, by have := K.kr.lt; omega, by have := K.kb.lt; omega⟩), K.fa2, K.ld2, (fun h => ⟨(K.ow2 h).1, (K.ow2 h).2.below (bel1 _)⟩), K.bb01, K.aa01, K.ba01, K.ab01, (fun h h' _ _ g hg e => by have e : w.heap.size = g := Option.some.inj e; obtain ⟨g', e1, e2, _⟩ := K.bs0 h h'; have := (e2.lies g hg).2; omega), K.aa02, K.ba02, (fun h _ _ g hg e => by have e : w.heap.size = g := Option.some.inj e; have := ((K.ow0 h).2.lies g hg).2; omega), (fun h h' _ _ g hg e => by have e : w.heap.size = g := Option.some.inj e; obtain ⟨g', e1, e2, _⟩ := K.bs1 h h'; have := (e2.lies g hg).2; omega), K.aa12, K.ba12, (fun h _ _ g hg e => by have e : w.heap.size = g := Option.some.inj e; have := ((K.ow1 h).2.lies g hg).2; omega), K.cl12, K.cl13, K.bd⟩
theorem CpyI.step3 {W0 : World} {B R : Nat} {a1 a2 a3 : Option Addr} {l1 c1 l2 c2 l3 c3 : Nat} {z1 z2 z3 : List ByteArray} {t0 t1 t2 t3 t4 t5 t6 t7 t8 t9 t10 t11 t12 t13 : Bool} {v3 v4 v5 v6 v7 v8 v9 v10 v11 v12 v13 v14 v15 : Value} {w w' : World} {g g' cp : Nat} (hi : t0 = true) (hf : t3 = false) (hv : v3 = .slice (some ⟨g, 0, none⟩) 0 0) (o : OwnE 1 stC w' W0.heap.size 9 (.slice (some ⟨g', 0, none⟩) l1 cp) z1) (gr : w.grownBy w' (some g)) (hg' : g' = g ∨ g' = w.heap.size) (K : CpyI W0 B R a1 a2 a3 l1 c1 l2 c2 l3 c3 z1 z2 z3 t0 t1 t2 t3 t4 t5 t6 t7 t8 t9 t10 t11 t12 t13 v3 v4 v5 v6 v7 v8 v9 v10 v11 v12 v13 v14 v15 w) : CpyI W0 B R a1 a2 a3 l1 c1 l2 c2 l3 c3 z1 z2 z3 t0 t1 t2 true t4 t5 t6 t7 t8 t9 t10 t11 t12 t13 v3 v4 v5 (.slice (some ⟨g', 0, none⟩) l1 cp) v7 v8 v9 v10 v11 v12 v13 v14 v15 w' := by
  obtain ⟨g1, e1, e2, e3, e4⟩ := K.bs0 hi hf
  obtain rfl : g = g1 := by rw [hv] at e1; simpa using e1
  have hgl := e2.lies g (by rw [hv]; rfl)
  have hR := K.kr.lt
  have hB := K.kb.lt
  have n12 : t12 = false := by cases c : t12; rfl; have := K.cl12 c; simp_all
  have n13 : t13 = false := by cases c : t13; rfl; have := K.cl13 c; simp_all
  have far : ∀ {v : Value} {L : List ByteArray}, OwnE 1 stC w W0.heap.size 9 v L → (∀ q, v.ownBlock = some q → q ≠ g) → OwnE 1 stC w' W0.heap.size 9 v L := fun {v L} h hne => h.far gr (fun q hq e => hne q hq (Option.some.inj e))
  have neb : ∀ {v : Value} {L : List ByteArray}, OwnE 1 stC w W0.heap.size 9 v L → (∀ q, v.ownBlock = some q → q ≠ g) → ∀ q, v.ownBlock = some q → q ≠ g' := fun {v L} h hne q hq e => by
    have h1 := hne q hq
    have h2 := (h.lies q hq).2
    omega
  exact ⟨(K.bel.grown gr K.bel.size (fun q hq => by cases hq; exact hgl.1)), K.lb, K.lr, K.ne, K.inp, (K.kb.apart gr (by simp; omega)), (by have := K.kr.apart gr (by simp; omega); rw [n13] at this ⊢; exact this), (fun _ h => by cases h), K.fa0, K.ld0, (fun _ => ⟨⟨g', cp, rfl, by omega, by omega⟩, o⟩), (fun h h' => by obtain ⟨q0, x1, x2, x3⟩ := K.bs1 h h'; exact ⟨q0, x1, far x2 (fun q hq e => K.bb01 hi hf h h' q (by rw [hv]; exact congrArg some e.symm) hq), x3⟩), K.fa1, K.ld1, (fun h => ⟨(K.ow1 h).1, far (K.ow1 h).2 (fun q hq e => K.ba01 hi hf h q (by rw [hv]; exact congrArg some e.symm) hq)⟩), (fun h h' => by obtain ⟨q0, x1, x2, x3⟩ := K.bs2 h h'; exact ⟨q0, x1, far x2 (fun q hq e => K.bb02 hi hf h h' q (by rw [hv]; exact congrArg some e.symm) hq), x3⟩), K.fa2, K.ld2, (fun h => ⟨(K.ow2 h).1, far (K.ow2 h).2 (fun q hq e => K.ba02 hi hf h q (by rw [hv]; exact congrArg some e.symm) hq)⟩), (fun _ h => by cases h), (fun _ h q hq e => by have hq : g' = q := Option.some.inj hq; exact neb (K.ow1 h).2 (fun q hq e => K.ba01 hi hf h q (by rw [hv]; exact congrArg some e.symm) hq) q e hq.symm), (fun _ h => by cases h), (fun _ h h' q hq e => by have hq : g' = q := Option.some.inj hq; obtain ⟨q0, x1, x2, x3⟩ := K.bs1 h h'; exact neb x2 (fun q hq e => K.bb01 hi hf h h' q (by rw [hv]; exact congrArg some e.symm) hq) q e hq.symm), (fun _ h => by cases h), (fun _ h q hq e => by have hq : g' = q := Option.some.inj hq; exact neb (K.ow2 h).2 (fun q hq e => K.ba02 hi hf h q (by rw [hv]; exact congrArg some e.symm) hq) q e hq.symm), (fun _ h => by cases h), (fun _ h h' q hq e => by have hq : g' = q := Option.some.inj hq; obtain ⟨q0, x1, x2, x3⟩ := K.bs2 h h'; exact neb x2 (fun q hq e => K.bb02 hi hf h h' q (by rw [hv]; exact congrArg some e.symm) hq) q e hq.symm), K.bb12, K.aa12, K.ba12, K.ab12, (fun h => by rw [n12] at h; cases h), K.cl13, (fun h => by rw [n12] at h; cases h)⟩
theorem CpyI.step7 {W0 : World} {B R : Nat} {a1 a2 a3 : Option Addr} {l1 c1 l2 c2 l3 c3 : Nat} {z1 z2 z3 : List ByteArray} {t0 t1 t2 t3 t4 t5 t6 t7 t8 t9 t10 t11 t12 t13 : Bool} {v3 v4 v5 v6 v7 v8 v9 v10 v11 v12 v13 v14 v15 : Value} {w w' : World} {g g' cp : Nat} (hi : t4 = true) (hf : t7 = false) (hv : v7 = .slice (some ⟨g, 0, none⟩) 0 0) (o : OwnE 1 stC w' W0.heap.size 9 (.slice (some ⟨g', 0, none⟩) l2 cp) z2) (gr : w.grownBy w' (some g)) (hg' : g' = g ∨ g' = w.heap.size) (K : CpyI W0 B R a1 a2 a3 l1 c1 l2 c2 l3 c3 z1 z2 z3 t0 t1 t2 t3 t4 t5 t6 t7 t8 t9 t10 t11 t12 t13 v3 v4 v5 v6 v7 v8 v9 v10 v11 v12 v13 v14 v15 w) : CpyI W0 B R a1 a2 a3 l1 c1 l2 c2 l3 c3 z1 z2 z3 t0 t1 t2 t3 t4 t5 t6 true t8 t9 t10 t11 t12 t13 v3 v4 v5 v6 v7 v8 v9 (.slice (some ⟨g', 0, none⟩) l2 cp) v11 v12 v13 v14 v15 w' := by
  obtain ⟨g1, e1, e2, e3, e4⟩ := K.bs1 hi hf
  obtain rfl : g = g1 := by rw [hv] at e1; simpa using e1
  have hgl := e2.lies g (by rw [hv]; rfl)
  have hR := K.kr.lt
  have hB := K.kb.lt
  have n12 : t12 = false := by cases c : t12; rfl; have := K.cl12 c; simp_all
  have n13 : t13 = false := by cases c : t13; rfl; have := K.cl13 c; simp_all
  have far : ∀ {v : Value} {L : List ByteArray}, OwnE 1 stC w W0.heap.size 9 v L → (∀ q, v.ownBlock = some q → q ≠ g) → OwnE 1 stC w' W0.heap.size 9 v L := fun {v L} h hne => h.far gr (fun q hq e => hne q hq (Option.some.inj e))
  have neb : ∀ {v : Value} {L : List ByteArray}, OwnE 1 stC w W0.heap.size 9 v L → (∀ q, v.ownBlock = some q → q ≠ g) → ∀ q, v.ownBlock = some q → q ≠ g' := fun {v L} h hne q hq e => by
    have h1 := hne q hq
    have h2 := (h.lies q hq).2
    omega
  exact ⟨(K.bel.grown gr K.bel.size (fun q hq => by cases hq; exact hgl.1)), K.lb, K.lr, K.ne, K.inp, (K.kb.apart gr (by simp; omega)), (by have := K.kr.apart gr (by simp; omega); rw [n13] at this ⊢; exact this), (fun h h' => by obtain ⟨q0, x1, x2, x3⟩ := K.bs0 h h'; exact ⟨q0, x1, far x2 (fun q hq e => K.bb01 h h' hi hf q hq (by rw [hv]; exact congrArg some e.symm)), x3⟩), K.fa0, K.ld0, (fun h => ⟨(K.ow0 h).1, far (K.ow0 h).2 (fun q hq e => K.ab01 h hi hf q hq (by rw [hv]; exact congrArg some e.symm))⟩), (fun _ h => by cases h), K.fa1, K.ld1, (fun _ => ⟨⟨g', cp, rfl, by omega, by omega⟩, o⟩), (fun h h' => by obtain ⟨q0, x1, x2, x3⟩ := K.bs2 h h'; exact ⟨q0, x1, far x2 (fun q hq e => K.bb12 hi hf h h' q (by rw [hv]; exact congrArg some e.symm) hq), x3⟩), K.fa2, K.ld2, (fun h => ⟨(K.ow2 h).1, far (K.ow2 h).2 (fun q hq e => K.ba12 hi hf h q (by rw [hv]; exact congrArg some e.symm) hq)⟩), (fun _ _ _ h => by cases h), (fun h _ q hq e => by have e : g' = q := Option.some.inj e; exact neb (K.ow0 h).2 (fun q hq e => K.ab01 h hi hf q hq (by rw [hv]; exact congrArg some e.symm)) q hq e.symm), (fun h h' _ q hq e => by have e : g' = q := Option.some.inj e; obtain ⟨q0, x1, x2, x3⟩ := K.bs0 h h'; exact neb x2 (fun q hq e => K.bb01 h h' hi hf q hq (by rw [hv]; exact congrArg some e.symm)) q hq e.symm), (fun _ _ h => by cases h), K.bb02, K.aa02, K.ba02, K.ab02, (fun _ h => by cases h), (fun _ h q hq e => by have hq : g' = q := Option.some.inj hq; exact neb (K.ow2 h).2 (fun q hq e => K.ba12 hi hf h q (by rw [hv]; exact congrArg some e.symm) hq) q e hq.symm), (fun _ h => by cases h), (fun _ h h' q hq e => by have hq : g' = q := Option.some.inj hq; obtain ⟨q0, x1, x2, x3⟩ := K.bs2 h h'; exact neb x2 (fun q hq e => K.bb12 hi hf h h' q (by rw [hv]; exact congrArg some e.symm) hq) q e hq.symm), (fun h => by rw [n12] at h; cases h), K.cl13, (fun h => by rw [n12] at h; cases h)⟩
theorem CpyI.step11 {W0 : World} {B R : Nat} {a1 a2 a3 : Option Addr} {l1 c1 l2 c2 l3 c3 : Nat} {z1 z2 z3 : List ByteArray} {t0 t1 t2 t3 t4 t5 t6 t7 t8 t9 t10 t11 t12 t13 : Bool} {v3 v4 v5 v6 v7 v8 v9 v10 v11 v12 v13 v14 v15 : Value} {w w' : World} {g g' cp : Nat} (hi : t8 = true) (hf : t11 = false) (hv : v11 = .slice (some ⟨g, 0, none⟩) 0 0) (o : OwnE 1 stC w' W0.heap.size 9 (.slice (some ⟨g', 0, none⟩) l3 cp) z3) (gr : w.grownBy w' (some g)) (hg' : g' = g ∨ g' = w.heap.size) (K : CpyI W0 B R a1 a2 a3 l1 c1 l2 c2 l3 c3 z1 z2 z3 t0 t1 t2 t3 t4 t5 t6 t7 t8 t9 t10 t11 t12 t13 v3 v4 v5 v6 v7 v8 v9 v10 v11 v12 v13 v14 v15 w) : CpyI W0 B R a1 a2 a3 l1 c1 l2 c2 l3 c3 z1 z2 z3 t0 t1 t2 t3 t4 t5 t6 t7 t8 t9 t10 true t12 t13 v3 v4 v5 v6 v7 v8 v9 v10 v11 v12 v13 (.slice (some ⟨g', 0, none⟩) l3 cp) v15 w' := by
  obtain ⟨g1, e1, e2, e3, e4⟩ := K.bs2 hi hf
  obtain rfl : g = g1 := by rw [hv] at e1; simpa using e1
  have hgl := e2.lies g (by rw [hv]; rfl)
  have hR := K.kr.lt
  have hB := K.kb.lt
  have n12 : t12 = false := by cases c : t12; rfl; have := K.cl12 c; simp_all
  have n13 : t13 = false := by cases c : t13; rfl; have := K.cl13 c; simp_all
  have far : ∀ {v : Value} {L : List ByteArray}, OwnE 1 stC w W0.heap.size 9 v L → (∀ q, v.ownBlock = some q → q ≠ g) → OwnE 1 stC w' W0.heap.size 9 v L := fun {v L} h hne => h.far gr (fun q hq e => hne q hq (Option.some.inj e))
  have neb : ∀ {v : Value} {L : List ByteArray}, OwnE 1 stC w W0.heap.size 9 v L → (∀ q, v.ownBlock = some q → q ≠ g) → ∀ q, v.ownBlock = some q → q ≠ g' := fun {v L} h hne q hq e => by
    have h1 := hne q hq
    have h2 := (h.lies q hq).2
    omega
  exact ⟨(K.bel.grown gr K.bel.size (fun q hq => by cases hq; exact hgl.1)), K.lb, K.lr, K.ne, K.inp, (K.kb.apart gr (by simp; omega)), (by have := K.kr.apart gr (by simp; omega); rw [n13] at this ⊢; exact this), (fun h h' => by obtain ⟨q0, x1, x2, x3⟩ := K.bs0 h h'; exact ⟨q0, x1, far x2 (fun q hq e => K.bb02 h h' hi hf q hq (by rw [hv]; exact congrArg some e.symm)), x3⟩), K.fa0, K.ld0, (fun h => ⟨(K.ow0 h).1, far (K.ow0 h).2 (fun q hq e => K.ab02 h hi hf q hq (by rw [hv]; exact congrArg some e.symm))⟩), (fun h h' => by obtain ⟨q0, x1, x2, x3⟩ := K.bs1 h h'; exact ⟨q0, x1, far x2 (fun q hq e => K.bb12 h h' hi hf q hq (by rw [hv]; exact congrArg some e.symm)), x3⟩), K.fa1, K.ld1, (fun h => ⟨(K.ow1 h).1, far (K.ow1 h).2 (fun q hq e => K.ab12 h hi hf q hq (by rw [hv]; exact congrArg some e.symm))⟩), (fun _ h => by cases h), K.fa2, K.ld2, (fun _ => ⟨⟨g', cp, rfl, by omega, by omega⟩, o⟩), K.bb01, K.aa01, K.ba01, K.ab01, (fun _ _ _ h => by cases h), (fun h _ q hq e => by have e : g' = q := Option.some.inj e; exact neb (K.ow0 h).2 (fun q hq e => K.ab02 h hi hf q hq (by rw [hv]; exact congrArg some e.symm)) q hq e.symm), (fun h h' _ q hq e => by have e : g' = q := Option.some.inj e; obtain ⟨q0, x1, x2, x3⟩ := K.bs0 h h'; exact neb x2 (fun q hq e => K.bb02 h h' hi hf q hq (by rw [hv]; exact congrArg some e.symm)) q hq e.symm), (fun _ _ h => by cases h), (fun _ _ _ h => by cases h), (fun h _ q hq e => by have e : g' = q := Option.some.inj e; exact neb (K.ow1 h).2 (fun q hq e => K.ab12 h hi hf q hq (by rw [hv]; exact congrArg some e.symm)) q hq e.symm), (fun h h' _ q hq e => by have e : g' = q := Option.some.inj e; obtain ⟨q0, x1, x2, x3⟩ := K.bs1 h h'; exact neb x2 (fun q hq e => K.bb12 h h' hi hf q hq (by rw [hv]; exact congrArg some e.symm)) q hq e.symm), (fun _ _ h => by cases h), (fun h => by rw [n12] at h; cases h), K.cl13, (fun h => by rw [n12] at h; cases h)⟩
theorem CpyI.step12 {W0 : World} {B R : Nat} {a1 a2 a3 : Option Addr} {l1 c1 l2 c2 l3 c3 : Nat} {z1 z2 z3 : List ByteArray} {t0 t1 t2 t3 t4 t5 t6 t7 t8 t9 t10 t11 t12 t13 : Bool} {v3 v4 v5 v6 v7 v8 v9 v10 v11 v12 v13 v14 v15 : Value} {w : World} (h3 : t3 = true) (h7 : t7 = true) (h11 : t11 = true) (K : CpyI W0 B R a1 a2 a3 l1 c1 l2 c2 l3 c3 z1 z2 z3 t0 t1 t2 t3 t4 t5 t6 t7 t8 t9 t10 t11 t12 t13 v3 v4 v5 v6 v7 v8 v9 v10 v11 v12 v13 v14 v15 w) : CpyI W0 B R a1 a2 a3 l1 c1 l2 c2 l3 c3 z1 z2 z3 t0 t1 t2 t3 t4 t5 t6 t7 t8 t9 t10 t11 true t13 v3 v4 v5 v6 v7 v8 v9 v10 v11 v12 v13 v14 (.agg #[v6, v10, v14]) w := by
  exact ⟨K.bel, K.lb, K.lr, K.ne, K.inp, K.kb, K.kr, K.bs0, K.fa0, K.ld0, K.ow0, K.bs1, K.fa1, K.ld1, K.ow1, K.bs2, K.fa2, K.ld2, K.ow2, K.bb01, K.aa01, K.ba01, K.ab01, K.bb02, K.aa02, K.ba02, K.ab02, K.bb12, K.aa12, K.ba12, K.ab12, fun _ => ⟨h3, h7, h11⟩, fun _ => rfl, fun _ => rfl⟩
theorem CpyI.step13 {W0 : World} {B R : Nat} {a1 a2 a3 : Option Addr} {l1 c1 l2 c2 l3 c3 : Nat} {z1 z2 z3 : List ByteArray} {t0 t1 t2 t3 t4 t5 t6 t7 t8 t9 t10 t11 t12 t13 : Bool} {v3 v4 v5 v6 v7 v8 v9 v10 v11 v12 v13 v14 v15 : Value} {w : World} (h12 : t12 = true) (h13 : t13 = false) (K : CpyI W0 B R a1 a2 a3 l1 c1 l2 c2 l3 c3 z1 z2 z3 t0 t1 t2 t3 t4 t5 t6 t7 t8 t9 t10 t11 t12 t13 v3 v4 v5 v6 v7 v8 v9 v10 v11 v12 v13 v14 v15 w) : CpyI W0 B R a1 a2 a3 l1 c1 l2 c2 l3 c3 z1 z2 z3 t0 t1 t2 t3 t4 t5 t6 t7 t8 t9 t10 t11 t12 true v3 v4 v5 v6 v7 v8 v9 v10 v11 v12 v13 v14 v15 (((w.setCell ⟨R, 0, none⟩ v6).setCell ⟨R, 1, none⟩ v10).setCell ⟨R, 2, none⟩ v14) := by
  have kr : Blk w R [.slice none 0 0, .slice none 0 0, .slice none 0 0] := by have := K.kr; rw [h13] at this; exact this
  have ko : ∀ {v : Value} {L : List ByteArray}, OwnE 1 stC w W0.heap.size 9 v L → v.ownBlock ≠ some R → OwnE 1 stC (((w.setCell ⟨R, 0, none⟩ v6).setCell ⟨R, 1, none⟩ v10).setCell ⟨R, 2, none⟩ v14) W0.heap.size 9 v L := fun {v L} h hb => ((h.set_other _ hb).set_other _ hb).set_other _ hb
  exact ⟨(((K.bel.setCell K.lr _).setCell K.lr _).setCell K.lr _), K.lb, K.lr, K.ne, K.inp, (((K.kb.other (p := ⟨R, 0, none⟩) (Ne.symm K.ne) _).other (p := ⟨R, 1, none⟩) (Ne.symm K.ne) _).other (p := ⟨R, 2, none⟩) (Ne.symm K.ne) _), (((kr.set 0 (by simp) v6).set 1 (by simp) v10).set 2 (by simp) v14), (fun h h' => by obtain ⟨q0, x1, x2, x3, x4⟩ := K.bs0 h h'; exact ⟨q0, x1, ko x2 (fun e => by rw [x1] at e; exact x3 (Option.some.inj e)), x3, x4⟩), K.fa0, K.ld0, (fun h => ⟨(K.ow0 h).1, ko (K.ow0 h).2 (fun e => by obtain ⟨q0, q1, x1, x2, _⟩ := (K.ow0 h).1; rw [x1] at e; exact x2 (Option.some.inj e))⟩), (fun h h' => by obtain ⟨q0, x1, x2, x3, x4⟩ := K.bs1 h h'; exact ⟨q0, x1, ko x2 (fun e => by rw [x1] at e; exact x3 (Option.some.inj e)), x3, x4⟩), K.fa1, K.ld1, (fun h => ⟨(K.ow1 h).1, ko (K.ow1 h).2 (fun e => by obtain ⟨q0, q1, x1, x2, _⟩ := (K.ow1 h).1; rw [x1] at e; exact x2 (Option.some.inj e))⟩), (fun h h' => by obtain ⟨q0, x1, x2, x3, x4⟩ := K.bs2 h h'; exact ⟨q0, x1, ko x2 (fun e => by rw [x1] at e; exact x3 (Option.some.inj e)), x3, x4⟩), K.fa2, K.ld2, (fun h => ⟨(K.ow2 h).1, ko (K.ow2 h).2 (fun e => by obtain ⟨q0, q1, x1, x2, _⟩ := (K.ow2 h).1; rw [x1] at e; exact x2 (Option.some.inj e))⟩), K.bb01, K.aa01, K.ba01, K.ab01, K.bb02, K.aa02, K.ba02, K.ab02, K.bb12, K.aa12, K.ba12, K.ab12, K.cl12, (fun _ => h12), K.bd⟩
set_option maxRecDepth 20000 in
set_option maxHeartbeats 4000000 in
theorem copied_any (a1 a2 a3 : Option Addr) (l1 c1 l2 c2 l3 c3 : Nat) (z1 z2 z3 : List ByteArray) (w : World) (hp : PnIn w a1 a2 a3 l1 l2 l3 z1 z2 z3) (h1 : l1 ≤ 1048576) (h2 : l2 ≤ 1048576) (h3 : l3 ≤ 1048576) :
    Calls Try.prog 28 #[.agg #[.slice a1 l1 c1, .slice a2 l2 c2, .slice a3 l3 c3]] w fun e w' => ∃ g1 q1 g2 q2 g3 q3, e = .returned (.agg #[.slice (some ⟨g1, 0, none⟩) l1 q1, .slice (some ⟨g2, 0, none⟩) l2 q2, .slice (some ⟨g3, 0, none⟩) l3 q3]) ∧ PnOwn w' w.heap.size (some ⟨g1, 0, none⟩) (some ⟨g2, 0, none⟩) (some ⟨g3, 0, none⟩) l1 q1 l2 q2 l3 q3 z1 z2 z3 ∧ Below w.heap.size w w' := by
  have HP := hide hp
  clear hp
  go_enter Try.func28, Try.ntmps28
  go_wp2_with fail
  refine wp_region_flags (by kernel_rfl) (by kernel_rfl) (fun l a W => ∃ v3 v4 v5 v6 v7 v8 v9 v10 v11 v12 v13 v14 v15, a = { tmps := #[.agg #[.slice a1 l1 c1, .slice a2 l2 c2, .slice a3 l3 c3], .pointer (some ⟨w.heap.size, 0, none⟩), .pointer (some ⟨w.heap.size + 1, 0, none⟩), v3, v4, v5, v6, v7, v8, v9, v10, v11, v12, v13, v14, v15], defers := [] } ∧ CpyI w w.heap.size (w.heap.size + 1) a1 a2 a3 l1 c1 l2 c2 l3 c3 z1 z2 z3 (l 0) (l 1) (l 2) (l 3) (l 4) (l 5) (l 6) (l 7) (l 8) (l 9) (l 10) (l 11) (l 12) (l 13) v3 v4 v5 v6 v7 v8 v9 v10 v11 v12 v13 v14 v15 W) ?_ ?_ ?_
  · refine ⟨_, _, _, _, _, _, _, _, _, _, _, _, _, rfl, ?_⟩
    have k1 : Blk ((w.alloc (Obj.cells #[.slice a1 l1 c1, .slice a2 l2 c2, .slice a3 l3 c3] 31)).alloc (Obj.cells #[.slice none 0 0, .slice none 0 0, .slice none 0 0] 31)).drew w.heap.size [.slice a1 l1 c1, .slice a2 l2 c2, .slice a3 l3 c3] := ((Blk.new _ _).alloc _).drewN 1
    have k2 : Blk ((w.alloc (Obj.cells #[.slice a1 l1 c1, .slice a2 l2 c2, .slice a3 l3 c3] 31)).alloc (Obj.cells #[.slice none 0 0, .slice none 0 0, .slice none 0 0] 31)).drew (w.heap.size + 1) [.slice none 0 0, .slice none 0 0, .slice none 0 0] := by
      have e : (w.alloc (Obj.cells #[.slice a1 l1 c1, .slice a2 l2 c2, .slice a3 l3 c3] 31)).heap.size = w.heap.size + 1 := by simp
      have k2 := (Blk.new (w := w.alloc (Obj.cells #[.slice a1 l1 c1, .slice a2 l2 c2, .slice a3 l3 c3] 31)) [.slice none 0 0, .slice none 0 0, .slice none 0 0] 31).drewN 1
      rw [e] at k2
      exact k2
    exact ⟨(bel2 _ _).trans (bel0d' 1), Nat.le_refl _, Nat.le_succ _, by omega, unhide HP, k1, k2, (fun h => by cases h), (fun h => by cases h), (fun h => by cases h), (fun h => by cases h), (fun h => by cases h), (fun h => by cases h), (fun h => by cases h), (fun h => by cases h), (fun h => by cases h), (fun h => by cases h), (fun h => by cases h), (fun h => by cases h), (fun h => by cases h), (fun h => by cases h), (fun h => by cases h), (fun h => by cases h), (fun h => by cases h), (fun h => by cases h), (fun h => by cases h), (fun h => by cases h), (fun h => by cases h), (fun h => by cases h), (fun h => by cases h), (fun h => by cases h), (fun h => by cases h), (fun h => by cases h), (fun h => by cases h)⟩
  · rintro l a W hall ⟨v3, v4, v5, v6, v7, v8, v9, v10, v11, v12, v13, v14, v15, rfl, K⟩
    obtain ⟨⟨g1, q1, e1, _⟩, o1⟩ := K.ow0 (hall 3 (by decide))
    obtain ⟨⟨g2, q2, e2, _⟩, o2⟩ := K.ow1 (hall 7 (by decide))
    obtain ⟨⟨g3, q3, e3, _⟩, o3⟩ := K.ow2 (hall 11 (by decide))
    have f12 := K.aa01 (hall 3 (by decide)) (hall 7 (by decide))
    have f13 := K.aa02 (hall 3 (by decide)) (hall 11 (by decide))
    have f23 := K.aa12 (hall 7 (by decide)) (hall 11 (by decide))
    have kr := K.kr
    rw [hall 13 (by decide)] at kr
    subst e1
    subst e2
    subst e3
    have HBL := hide K.bel
    have HPN : Hid (PnOwn W w.heap.size (some ⟨g1, 0, none⟩) (some ⟨g2, 0, none⟩) (some ⟨g3, 0, none⟩) l1 q1 l2 q2 l3 q3 z1 z2 z3) := hide ⟨o1, o2, o3, f12, f13, f23⟩
    have HKR : Hid (Blk W (w.heap.size + 1) [.slice (some ⟨g1, 0, none⟩) l1 q1, .slice (some ⟨g2, 0, none⟩) l2 q2, .slice (some ⟨g3, 0, none⟩) l3 q3]) := hide kr
    clear K o1 o2 o3 f12 f13 f23 kr hall
    go_wp2_with fail
    exact bodyPost_ret (results_cell (vs := [.slice (some ⟨g1, 0, none⟩) l1 q1, .slice (some ⟨g2, 0, none⟩) l2 q2, .slice (some ⟨g3, 0, none⟩) l3 q3]) rfl Try.isAgg31 Try.sizeOf31 rfl (unhide HKR)) rfl ⟨g1, q1, g2, q2, g3, q3, rfl, unhide HPN, unhide HBL⟩
  · rintro l a W i o ho hl hd ⟨v3, v4, v5, v6, v7, v8, v9, v10, v11, v12, v13, v14, v15, rfl, K⟩
    have hi : i < 14 := (Array.getElem?_eq_some_iff.1 ho).1
    rcases (show i = 0 ∨ i = 1 ∨ i = 2 ∨ i = 3 ∨ i = 4 ∨ i = 5 ∨ i = 6 ∨ i = 7 ∨ i = 8 ∨ i = 9 ∨ i = 10 ∨ i = 11 ∨ i = 12 ∨ i = 13 from by omega) with rfl | rfl | rfl | rfl | rfl | rfl | rfl | rfl | rfl | rfl | rfl | rfl | rfl | rfl
    · simp at ho
      subst ho
      have HK := hide K.step0
      clear K hd hl
      go_wp2_with fail
      exact ⟨rfl, _, _, _, _, _, _, _, _, _, _, _, _, _, rfl, unhide HK⟩
    · simp at ho
      subst ho
      have HK := hide K.step1
      clear K hd hl
      go_wp2_with fail
      exact ⟨rfl, _, _, _, _, _, _, _, _, _, _, _, _, _, rfl, unhide HK⟩
    · simp at ho
      subst ho
      have d1 : l 1 = true := hd ⟨1, .data⟩ (by simp) rfl
      have e1 := K.fa0 d1
      subst e1
      have x0 : W.cell? ⟨w.heap.size, 0, none⟩ = some (.slice a1 l1 c1) := K.kb.c 0 (by simp)
      have HK := hide K.step2
      clear K hd hl d1
      go_wp2_with fail
      exact ⟨rfl, _, _, _, _, _, _, _, _, _, _, _, _, _, rfl, unhide HK⟩
    · simp at ho
      subst ho
      have d0 : l 0 = true := hd ⟨0, .data⟩ (by simp) rfl
      have d2 : l 2 = true := hd ⟨2, .data⟩ (by simp) rfl
      have e1 := K.ld0 d2
      subst e1
      obtain ⟨g, e2, e3, _⟩ := K.bs0 d0 hl
      have HR := hide (K.inp.below K.bel).r1
      have HO := hide e3
      have HS := hide K.bel.size
      have HK := hide (fun (W' : World) (g' cp : Nat) o gr hg' => K.step3 (w' := W') (g' := g') (cp := cp) d0 hl e2 o gr hg')
      subst e2
      clear K hd hl d0 d2 e3
      go_wp2_with (at_builtin; refine wpList_app_st rfl _ _ rfl (unhide HO) rfl rfl a1 l1 c1 z1 rfl (unhide HR) (by omega) (unhide HS) ?_; intro g' cp w' o' gr' hg'; rw [List.nil_append, Nat.zero_add] at o'; rw [Nat.zero_add]; have K' := hide (unhide HK w' g' cp o' gr' hg'); clear o' gr' hg')
      exact ⟨rfl, _, _, _, _, _, _, _, _, _, _, _, _, _, rfl, unhide K'⟩
    · simp at ho
      subst ho
      have HK := hide K.step4
      clear K hd hl
      go_wp2_with fail
      exact ⟨rfl, _, _, _, _, _, _, _, _, _, _, _, _, _, rfl, unhide HK⟩
    · simp at ho
      subst ho
      have HK := hide K.step5
      clear K hd hl
      go_wp2_with fail
      exact ⟨rfl, _, _, _, _, _, _, _, _, _, _, _, _, _, rfl, unhide HK⟩
    · simp at ho
      subst ho
      have d5 : l 5 = true := hd ⟨5, .data⟩ (by simp) rfl
      have e1 := K.fa1 d5
      subst e1
      have x0 : W.cell? ⟨w.heap.size, 1, none⟩ = some (.slice a2 l2 c2) := K.kb.c 1 (by simp)
      have HK := hide K.step6
      clear K hd hl d5
      go_wp2_with fail
      exact ⟨rfl, _, _, _, _, _, _, _, _, _, _, _, _, _, rfl, unhide HK⟩
    · simp at ho
      subst ho
      have d4 : l 4 = true := hd ⟨4, .data⟩ (by simp) rfl
      have d6 : l 6 = true := hd ⟨6, .data⟩ (by simp) rfl
      have e1 := K.ld1 d6
      subst e1
      obtain ⟨g, e2, e3, _⟩ := K.bs1 d4 hl
      have HR := hide (K.inp.below K.bel).r2
      have HO := hide e3
      have HS := hide K.bel.size
      have HK := hide (fun (W' : World) (g' cp : Nat) o gr hg' => K.step7 (w' := W') (g' := g') (cp := cp) d4 hl e2 o gr hg')
      subst e2
      clear K hd hl d4 d6 e3
      go_wp2_with (at_builtin; refine wpList_app_st rfl _ _ rfl (unhide HO) rfl rfl a2 l2 c2 z2 rfl (unhide HR) (by omega) (unhide HS) ?_; intro g' cp w' o' gr' hg'; rw [List.nil_append, Nat.zero_add] at o'; rw [Nat.zero_add]; have K' := hide (unhide HK w' g' cp o' gr' hg'); clear o' gr' hg')
      exact ⟨rfl, _, _, _, _, _, _, _, _, _, _, _, _, _, rfl, unhide K'⟩
    · simp at ho
      subst ho
      have HK := hide K.step8
      clear K hd hl
      go_wp2_with fail
      exact ⟨rfl, _, _, _, _, _, _, _, _, _, _, _, _, _, rfl, unhide HK⟩
    · simp at ho
      subst ho
      have HK := hide K.step9
      clear K hd hl
      go_wp2_with fail
      exact ⟨rfl, _, _, _, _, _, _, _, _, _, _, _, _, _, rfl, unhide HK⟩
    · simp at ho
      subst ho
      have d9 : l 9 = true := hd ⟨9, .data⟩ (by simp) rfl
      have e1 := K.fa2 d9
      subst e1
      have x0 : W.cell? ⟨w.heap.size, 2, none⟩ = some (.slice a3 l3 c3) := K.kb.c 2 (by simp)
      have HK := hide K.step10
      clear K hd hl d9
      go_wp2_with fail
      exact ⟨rfl, _, _, _, _, _, _, _, _, _, _, _, _, _, rfl, unhide HK⟩
    · simp at ho
      subst ho
      have d8 : l 8 = true := hd ⟨8, .data⟩ (by simp) rfl
      have d10 : l 10 = true := hd ⟨10, .data⟩ (by simp) rfl
      have e1 := K.ld2 d10
      subst e1
      obtain ⟨g, e2, e3, _⟩ := K.bs2 d8 hl
      have HR := hide (K.inp.below K.bel).r3
      have HO := hide e3
      have HS := hide K.bel.size
      have HK := hide (fun (W' : World) (g' cp : Nat) o gr hg' => K.step11 (w' := W') (g' := g') (cp := cp) d8 hl e2 o gr hg')
      subst e2
      clear K hd hl d8 d10 e3
      go_wp2_with (at_builtin; refine wpList_app_st rfl _ _ rfl (unhide HO) rfl rfl a3 l3 c3 z3 rfl (unhide HR) (by omega) (unhide HS) ?_; intro g' cp w' o' gr' hg'; rw [List.nil_append, Nat.zero_add] at o'; rw [Nat.zero_add]; have K' := hide (unhide HK w' g' cp o' gr' hg'); clear o' gr' hg')
      exact ⟨rfl, _, _, _, _, _, _, _, _, _, _, _, _, _, rfl, unhide K'⟩
    · simp at ho
      subst ho
      have d3 : l 3 = true := hd ⟨3, .data⟩ (by simp) rfl
      have d7 : l 7 = true := hd ⟨7, .data⟩ (by simp) rfl
      have d11 : l 11 = true := hd ⟨11, .data⟩ (by simp) rfl
      obtain ⟨⟨g1, q1, e1, _⟩, _⟩ := K.ow0 d3
      obtain ⟨⟨g2, q2, e2, _⟩, _⟩ := K.ow1 d7
      obtain ⟨⟨g3, q3, e3, _⟩, _⟩ := K.ow2 d11
      have HK := hide (K.step12 d3 d7 d11)
      clear K hd hl d3 d7 d11
      subst e1
      subst e2
      subst e3
      go_wp2_with fail
      exact ⟨rfl, _, _, _, _, _, _, _, _, _, _, _, _, _, rfl, unhide HK⟩
    · simp at ho
      subst ho
      have d12 : l 12 = true := hd ⟨12, .data⟩ (by simp) rfl
      have d3 : l 3 = true := hd ⟨3, .phase⟩ (by simp) rfl
      have d7 : l 7 = true := hd ⟨7, .phase⟩ (by simp) rfl
      have d11 : l 11 = true := hd ⟨11, .phase⟩ (by simp) rfl
      obtain ⟨⟨g1, q1, e1, _⟩, _⟩ := K.ow0 d3
      obtain ⟨⟨g2, q2, e2, _⟩, _⟩ := K.ow1 d7
      obtain ⟨⟨g3, q3, e3, _⟩, _⟩ := K.ow2 d11
      have e4 := K.bd d12
      have kr := K.kr
      rw [hl] at kr
      have x0 := kr.c 0 (by simp)
      have x1 := kr.c 1 (by simp)
      have x2 := kr.c 2 (by simp)
      have f0 := kr.f 0 (by simp)
      have f1 := kr.f 1 (by simp)
      have f2 := kr.f 2 (by simp)
      have HK := hide (K.step13 d12 hl)
      clear K kr hd hl d3 d7 d11 d12
      subst e4
      subst e1
      subst e2
      subst e3
      go_wp2_with fail
      exact ⟨rfl, _, _, _, _, _, _, _, _, _, _, _, _, _, rfl, unhide HK⟩

end Go.Proofs.Ytfehfocfoegbdaa
