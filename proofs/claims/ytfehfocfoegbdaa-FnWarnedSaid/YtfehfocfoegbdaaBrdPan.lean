/-
  A board told as a panel: each set's names, sorted, in memory of its own. Nothing that was there is written. (A region that draws its order, by an invariant.)
-/
import Derived.Test.YtfehfocfoegbdaaSetOf
import Derived.Test.YtfehfocfoegbdaaRegInv
namespace Go.Proofs.Ytfehfocfoegbdaa
open Go.RowKit Go.Maps Go.WideMaps

structure PanI (W0 : World) (B R b1 b2 b3 n1 n2 n3 : Nat) (S1 S2 S3 : ByteArray → Bool) (L1 L2 L3 : List ByteArray) (t0 t1 t2 t3 t4 t5 t6 t7 t8 t9 t10 : Bool) (v3 v4 v5 v6 v7 v8 v9 v10 v11 v12 : Value) (w : World) : Prop where
  bel : Below W0.heap.size W0 w
  lb : W0.heap.size ≤ B
  lr : W0.heap.size ≤ R
  ne : B ≠ R
  brd : Brd w b1 b2 b3 n1 n2 n3 S1 S2 S3
  lo : W0.heap.size ≤ b1 ∨ b3 < W0.heap.size
  nr : b1 ≠ R ∧ b2 ≠ R ∧ b3 ≠ R
  kb : Blk w B [.map (some b1), .map (some b2), .map (some b3)]
  kr : Blk w R (bif t10 then [v5, v8, v11] else [.slice none 0 0, .slice none 0 0, .slice none 0 0])
  fa0 : t0 = true → v3 = .pointer (some ⟨B, 0, none⟩)
  ld0 : t1 = true → v4 = .map (some b1)
  ow0 : t2 = true → (∃ a c, v5 = .slice a L1.length c) ∧ OwnE 1 stC w W0.heap.size 9 v5 L1 ∧ v5.ownBlock ≠ some R
  fa1 : t3 = true → v6 = .pointer (some ⟨B, 1, none⟩)
  ld1 : t4 = true → v7 = .map (some b2)
  ow1 : t5 = true → (∃ a c, v8 = .slice a L2.length c) ∧ OwnE 1 stC w W0.heap.size 9 v8 L2 ∧ v8.ownBlock ≠ some R
  fa2 : t6 = true → v9 = .pointer (some ⟨B, 2, none⟩)
  ld2 : t7 = true → v10 = .map (some b3)
  ow2 : t8 = true → (∃ a c, v11 = .slice a L3.length c) ∧ OwnE 1 stC w W0.heap.size 9 v11 L3 ∧ v11.ownBlock ≠ some R
  fr01 : t2 = true → t5 = true → ∀ g, v5.ownBlock = some g → v8.ownBlock ≠ some g
  fr02 : t2 = true → t8 = true → ∀ g, v5.ownBlock = some g → v11.ownBlock ≠ some g
  fr12 : t5 = true → t8 = true → ∀ g, v8.ownBlock = some g → v11.ownBlock ≠ some g
  cl9 : t9 = true → t2 = true ∧ t5 = true ∧ t8 = true
  cl10 : t10 = true → t9 = true
  bd : t9 = true → v12 = .agg #[v5, v8, v11]
theorem PanI.below {W0 : World} {B R b1 b2 b3 n1 n2 n3 : Nat} {S1 S2 S3 : ByteArray → Bool} {L1 L2 L3 : List ByteArray} {t0 t1 t2 t3 t4 t5 t6 t7 t8 t9 t10 : Bool} {v3 v4 v5 v6 v7 v8 v9 v10 v11 v12 : Value} {w w' : World} (K : PanI W0 B R b1 b2 b3 n1 n2 n3 S1 S2 S3 L1 L2 L3 t0 t1 t2 t3 t4 t5 t6 t7 t8 t9 t10 v3 v4 v5 v6 v7 v8 v9 v10 v11 v12 w) (k : Below w.heap.size w w') : PanI W0 B R b1 b2 b3 n1 n2 n3 S1 S2 S3 L1 L2 L3 t0 t1 t2 t3 t4 t5 t6 t7 t8 t9 t10 v3 v4 v5 v6 v7 v8 v9 v10 v11 v12 w' :=
  ⟨K.bel.trans (k.mono K.bel.size), K.lb, K.lr, K.ne, K.brd.below k, K.lo, K.nr, K.kb.below k, K.kr.below k, K.fa0, K.ld0, fun h => ⟨(K.ow0 h).1, (K.ow0 h).2.1.below k, (K.ow0 h).2.2⟩, K.fa1, K.ld1, fun h => ⟨(K.ow1 h).1, (K.ow1 h).2.1.below k, (K.ow1 h).2.2⟩, K.fa2, K.ld2, fun h => ⟨(K.ow2 h).1, (K.ow2 h).2.1.below k, (K.ow2 h).2.2⟩, K.fr01, K.fr02, K.fr12, K.cl9, K.cl10, K.bd⟩
theorem PanI.step0 {W0 : World} {B R b1 b2 b3 n1 n2 n3 : Nat} {S1 S2 S3 : ByteArray → Bool} {L1 L2 L3 : List ByteArray} {t0 t1 t2 t3 t4 t5 t6 t7 t8 t9 t10 : Bool} {v3 v4 v5 v6 v7 v8 v9 v10 v11 v12 : Value} {w : World} (K : PanI W0 B R b1 b2 b3 n1 n2 n3 S1 S2 S3 L1 L2 L3 t0 t1 t2 t3 t4 t5 t6 t7 t8 t9 t10 v3 v4 v5 v6 v7 v8 v9 v10 v11 v12 w) : PanI W0 B R b1 b2 b3 n1 n2 n3 S1 S2 S3 L1 L2 L3 true t1 t2 t3 t4 t5 t6 t7 t8 t9 t10 (.pointer (some ⟨B, 0, none⟩)) v4 v5 v6 v7 v8 v9 v10 v11 v12 w :=
  ⟨K.bel, K.lb, K.lr, K.ne, K.brd, K.lo, K.nr, K.kb, K.kr, fun _ => rfl, K.ld0, K.ow0, K.fa1, K.ld1, K.ow1, K.fa2, K.ld2, K.ow2, K.fr01, K.fr02, K.fr12, K.cl9, K.cl10, K.bd⟩
theorem PanI.step1 {W0 : World} {B R b1 b2 b3 n1 n2 n3 : Nat} {S1 S2 S3 : ByteArray → Bool} {L1 L2 L3 : List ByteArray} {t0 t1 t2 t3 t4 t5 t6 t7 t8 t9 t10 : Bool} {v3 v4 v5 v6 v7 v8 v9 v10 v11 v12 : Value} {w : World} (K : PanI W0 B R b1 b2 b3 n1 n2 n3 S1 S2 S3 L1 L2 L3 t0 t1 t2 t3 t4 t5 t6 t7 t8 t9 t10 v3 v4 v5 v6 v7 v8 v9 v10 v11 v12 w) : PanI W0 B R b1 b2 b3 n1 n2 n3 S1 S2 S3 L1 L2 L3 t0 true t2 t3 t4 t5 t6 t7 t8 t9 t10 v3 (.map (some b1)) v5 v6 v7 v8 v9 v10 v11 v12 w :=
  ⟨K.bel, K.lb, K.lr, K.ne, K.brd, K.lo, K.nr, K.kb, K.kr, K.fa0, fun _ => rfl, K.ow0, K.fa1, K.ld1, K.ow1, K.fa2, K.ld2, K.ow2, K.fr01, K.fr02, K.fr12, K.cl9, K.cl10, K.bd⟩
theorem PanI.step3 {W0 : World} {B R b1 b2 b3 n1 n2 n3 : Nat} {S1 S2 S3 : ByteArray → Bool} {L1 L2 L3 : List ByteArray} {t0 t1 t2 t3 t4 t5 t6 t7 t8 t9 t10 : Bool} {v3 v4 v5 v6 v7 v8 v9 v10 v11 v12 : Value} {w : World} (K : PanI W0 B R b1 b2 b3 n1 n2 n3 S1 S2 S3 L1 L2 L3 t0 t1 t2 t3 t4 t5 t6 t7 t8 t9 t10 v3 v4 v5 v6 v7 v8 v9 v10 v11 v12 w) : PanI W0 B R b1 b2 b3 n1 n2 n3 S1 S2 S3 L1 L2 L3 t0 t1 t2 true t4 t5 t6 t7 t8 t9 t10 v3 v4 v5 (.pointer (some ⟨B, 1, none⟩)) v7 v8 v9 v10 v11 v12 w :=
  ⟨K.bel, K.lb, K.lr, K.ne, K.brd, K.lo, K.nr, K.kb, K.kr, K.fa0, K.ld0, K.ow0, fun _ => rfl, K.ld1, K.ow1, K.fa2, K.ld2, K.ow2, K.fr01, K.fr02, K.fr12, K.cl9, K.cl10, K.bd⟩
theorem PanI.step4 {W0 : World} {B R b1 b2 b3 n1 n2 n3 : Nat} {S1 S2 S3 : ByteArray → Bool} {L1 L2 L3 : List ByteArray} {t0 t1 t2 t3 t4 t5 t6 t7 t8 t9 t10 : Bool} {v3 v4 v5 v6 v7 v8 v9 v10 v11 v12 : Value} {w : World} (K : PanI W0 B R b1 b2 b3 n1 n2 n3 S1 S2 S3 L1 L2 L3 t0 t1 t2 t3 t4 t5 t6 t7 t8 t9 t10 v3 v4 v5 v6 v7 v8 v9 v10 v11 v12 w) : PanI W0 B R b1 b2 b3 n1 n2 n3 S1 S2 S3 L1 L2 L3 t0 t1 t2 t3 true t5 t6 t7 t8 t9 t10 v3 v4 v5 v6 (.map (some b2)) v8 v9 v10 v11 v12 w :=
  ⟨K.bel, K.lb, K.lr, K.ne, K.brd, K.lo, K.nr, K.kb, K.kr, K.fa0, K.ld0, K.ow0, K.fa1, fun _ => rfl, K.ow1, K.fa2, K.ld2, K.ow2, K.fr01, K.fr02, K.fr12, K.cl9, K.cl10, K.bd⟩
theorem PanI.step6 {W0 : World} {B R b1 b2 b3 n1 n2 n3 : Nat} {S1 S2 S3 : ByteArray → Bool} {L1 L2 L3 : List ByteArray} {t0 t1 t2 t3 t4 t5 t6 t7 t8 t9 t10 : Bool} {v3 v4 v5 v6 v7 v8 v9 v10 v11 v12 : Value} {w : World} (K : PanI W0 B R b1 b2 b3 n1 n2 n3 S1 S2 S3 L1 L2 L3 t0 t1 t2 t3 t4 t5 t6 t7 t8 t9 t10 v3 v4 v5 v6 v7 v8 v9 v10 v11 v12 w) : PanI W0 B R b1 b2 b3 n1 n2 n3 S1 S2 S3 L1 L2 L3 t0 t1 t2 t3 t4 t5 true t7 t8 t9 t10 v3 v4 v5 v6 v7 v8 (.pointer (some ⟨B, 2, none⟩)) v10 v11 v12 w :=
  ⟨K.bel, K.lb, K.lr, K.ne, K.brd, K.lo, K.nr, K.kb, K.kr, K.fa0, K.ld0, K.ow0, K.fa1, K.ld1, K.ow1, fun _ => rfl, K.ld2, K.ow2, K.fr01, K.fr02, K.fr12, K.cl9, K.cl10, K.bd⟩
theorem PanI.step7 {W0 : World} {B R b1 b2 b3 n1 n2 n3 : Nat} {S1 S2 S3 : ByteArray → Bool} {L1 L2 L3 : List ByteArray} {t0 t1 t2 t3 t4 t5 t6 t7 t8 t9 t10 : Bool} {v3 v4 v5 v6 v7 v8 v9 v10 v11 v12 : Value} {w : World} (K : PanI W0 B R b1 b2 b3 n1 n2 n3 S1 S2 S3 L1 L2 L3 t0 t1 t2 t3 t4 t5 t6 t7 t8 t9 t10 v3 v4 v5 v6 v7 v8 v9 v10 v11 v12 w) : PanI W0 B R b1 b2 b3 n1 n2 n3 S1 S2 S3 L1 L2 L3 t0 t1 t2 t3 t4 t5 t6 true t8 t9 t10 v3 v4 v5 v6 v7 v8 v9 (.map (some b3)) v11 v12 w :=
  ⟨K.bel, K.lb, K.lr, K.ne, K.brd, K.lo, K.nr, K.kb, K.kr, K.fa0, K.ld0, K.ow0, K.fa1, K.ld1, K.ow1, K.fa2, fun _ => rfl, K.ow2, K.fr01, K.fr02, K.fr12, K.cl9, K.cl10, K.bd⟩
theorem PanI.step2 {W0 : World} {B R b1 b2 b3 n1 n2 n3 : Nat} {S1 S2 S3 : ByteArray → Bool} {L1 L2 L3 : List ByteArray} {t0 t1 t2 t3 t4 t5 t6 t7 t8 t9 t10 : Bool} {v3 v4 v5 v6 v7 v8 v9 v10 v11 v12 u : Value} {w w' : World} (K : PanI W0 B R b1 b2 b3 n1 n2 n3 S1 S2 S3 L1 L2 L3 t0 t1 t2 t3 t4 t5 t6 t7 t8 t9 t10 v3 v4 v5 v6 v7 v8 v9 v10 v11 v12 w) (h2 : t2 = false) (k : Below w.heap.size w w') (hu : ∃ a c, u = .slice a L1.length c) (o : OwnE 1 stC w' w.heap.size 9 u L1) : PanI W0 B R b1 b2 b3 n1 n2 n3 S1 S2 S3 L1 L2 L3 t0 t1 true t3 t4 t5 t6 t7 t8 t9 t10 v3 v4 u v6 v7 v8 v9 v10 v11 v12 w' := by
  have K' := K.below k
  have hR := K.kr.lt
  have h9 : t9 = false := by cases c : t9; rfl; have := K.cl9 c; simp_all
  have h10 : t10 = false := by cases c : t10; rfl; have := K.cl10 c; simp_all
  refine ⟨K'.bel, K'.lb, K'.lr, K'.ne, K'.brd, K'.lo, K'.nr, K'.kb, by have := K'.kr; rw [h10] at this ⊢; exact this, K'.fa0, K'.ld0, fun _ => ⟨hu, o.mono K.bel.size, fun e => by have h1 := (o.lies R e).1; omega⟩, K'.fa1, K'.ld1, K'.ow1, K'.fa2, K'.ld2, K'.ow2, fun _ h g hg e => by have h1 := (o.lies g hg).1; have h2 := ((K.ow1 h).2.1.lies g e).2; omega, fun _ h g hg e => by have h1 := (o.lies g hg).1; have h2 := ((K.ow2 h).2.1.lies g e).2; omega, K'.fr12, (fun h => by rw [h9] at h; cases h), K'.cl10, (fun h => by rw [h9] at h; cases h)⟩
theorem PanI.step5 {W0 : World} {B R b1 b2 b3 n1 n2 n3 : Nat} {S1 S2 S3 : ByteArray → Bool} {L1 L2 L3 : List ByteArray} {t0 t1 t2 t3 t4 t5 t6 t7 t8 t9 t10 : Bool} {v3 v4 v5 v6 v7 v8 v9 v10 v11 v12 u : Value} {w w' : World} (K : PanI W0 B R b1 b2 b3 n1 n2 n3 S1 S2 S3 L1 L2 L3 t0 t1 t2 t3 t4 t5 t6 t7 t8 t9 t10 v3 v4 v5 v6 v7 v8 v9 v10 v11 v12 w) (h5 : t5 = false) (k : Below w.heap.size w w') (hu : ∃ a c, u = .slice a L2.length c) (o : OwnE 1 stC w' w.heap.size 9 u L2) : PanI W0 B R b1 b2 b3 n1 n2 n3 S1 S2 S3 L1 L2 L3 t0 t1 t2 t3 t4 true t6 t7 t8 t9 t10 v3 v4 v5 v6 v7 u v9 v10 v11 v12 w' := by
  have K' := K.below k
  have hR := K.kr.lt
  have h9 : t9 = false := by cases c : t9; rfl; have := K.cl9 c; simp_all
  have h10 : t10 = false := by cases c : t10; rfl; have := K.cl10 c; simp_all
  refine ⟨K'.bel, K'.lb, K'.lr, K'.ne, K'.brd, K'.lo, K'.nr, K'.kb, by have := K'.kr; rw [h10] at this ⊢; exact this, K'.fa0, K'.ld0, K'.ow0, K'.fa1, K'.ld1, fun _ => ⟨hu, o.mono K.bel.size, fun e => by have h1 := (o.lies R e).1; omega⟩, K'.fa2, K'.ld2, K'.ow2, fun h _ g hg e => by have h1 := (o.lies g e).1; have h2 := ((K.ow0 h).2.1.lies g hg).2; omega, K'.fr02, fun _ h g hg e => by have h1 := (o.lies g hg).1; have h2 := ((K.ow2 h).2.1.lies g e).2; omega, (fun h => by rw [h9] at h; cases h), K'.cl10, (fun h => by rw [h9] at h; cases h)⟩
theorem PanI.step8 {W0 : World} {B R b1 b2 b3 n1 n2 n3 : Nat} {S1 S2 S3 : ByteArray → Bool} {L1 L2 L3 : List ByteArray} {t0 t1 t2 t3 t4 t5 t6 t7 t8 t9 t10 : Bool} {v3 v4 v5 v6 v7 v8 v9 v10 v11 v12 u : Value} {w w' : World} (K : PanI W0 B R b1 b2 b3 n1 n2 n3 S1 S2 S3 L1 L2 L3 t0 t1 t2 t3 t4 t5 t6 t7 t8 t9 t10 v3 v4 v5 v6 v7 v8 v9 v10 v11 v12 w) (h8 : t8 = false) (k : Below w.heap.size w w') (hu : ∃ a c, u = .slice a L3.length c) (o : OwnE 1 stC w' w.heap.size 9 u L3) : PanI W0 B R b1 b2 b3 n1 n2 n3 S1 S2 S3 L1 L2 L3 t0 t1 t2 t3 t4 t5 t6 t7 true t9 t10 v3 v4 v5 v6 v7 v8 v9 v10 u v12 w' := by
  have K' := K.below k
  have hR := K.kr.lt
  have h9 : t9 = false := by cases c : t9; rfl; have := K.cl9 c; simp_all
  have h10 : t10 = false := by cases c : t10; rfl; have := K.cl10 c; simp_all
  refine ⟨K'.bel, K'.lb, K'.lr, K'.ne, K'.brd, K'.lo, K'.nr, K'.kb, by have := K'.kr; rw [h10] at this ⊢; exact this, K'.fa0, K'.ld0, K'.ow0, K'.fa1, K'.ld1, K'.ow1, K'.fa2, K'.ld2, fun _ => ⟨hu, o.mono K.bel.size, fun e => by have h1 := (o.lies R e).1; omega⟩, K'.fr01, fun h _ g hg e => by have h1 := (o.lies g e).1; have h2 := ((K.ow0 h).2.1.lies g hg).2; omega, fun h _ g hg e => by have h1 := (o.lies g e).1; have h2 := ((K.ow1 h).2.1.lies g hg).2; omega, (fun h => by rw [h9] at h; cases h), K'.cl10, (fun h => by rw [h9] at h; cases h)⟩
theorem PanI.step9 {W0 : World} {B R b1 b2 b3 n1 n2 n3 : Nat} {S1 S2 S3 : ByteArray → Bool} {L1 L2 L3 : List ByteArray} {t0 t1 t2 t3 t4 t5 t6 t7 t8 t9 t10 : Bool} {v3 v4 v5 v6 v7 v8 v9 v10 v11 v12 : Value} {w : World} (h2 : t2 = true) (h5 : t5 = true) (h8 : t8 = true) (K : PanI W0 B R b1 b2 b3 n1 n2 n3 S1 S2 S3 L1 L2 L3 t0 t1 t2 t3 t4 t5 t6 t7 t8 t9 t10 v3 v4 v5 v6 v7 v8 v9 v10 v11 v12 w) : PanI W0 B R b1 b2 b3 n1 n2 n3 S1 S2 S3 L1 L2 L3 t0 t1 t2 t3 t4 t5 t6 t7 t8 true t10 v3 v4 v5 v6 v7 v8 v9 v10 v11 (.agg #[v5, v8, v11]) w :=
  ⟨K.bel, K.lb, K.lr, K.ne, K.brd, K.lo, K.nr, K.kb, K.kr, K.fa0, K.ld0, K.ow0, K.fa1, K.ld1, K.ow1, K.fa2, K.ld2, K.ow2, K.fr01, K.fr02, K.fr12, fun _ => ⟨h2, h5, h8⟩, fun _ => rfl, fun _ => rfl⟩
theorem PanI.step10 {W0 : World} {B R b1 b2 b3 n1 n2 n3 : Nat} {S1 S2 S3 : ByteArray → Bool} {L1 L2 L3 : List ByteArray} {t0 t1 t2 t3 t4 t5 t6 t7 t8 t9 t10 : Bool} {v3 v4 v5 v6 v7 v8 v9 v10 v11 v12 : Value} {w : World} (K : PanI W0 B R b1 b2 b3 n1 n2 n3 S1 S2 S3 L1 L2 L3 t0 t1 t2 t3 t4 t5 t6 t7 t8 t9 t10 v3 v4 v5 v6 v7 v8 v9 v10 v11 v12 w) (_h2 : t2 = true) (_h5 : t5 = true) (_h8 : t8 = true) (h9 : t9 = true) (h10 : t10 = false) : PanI W0 B R b1 b2 b3 n1 n2 n3 S1 S2 S3 L1 L2 L3 t0 t1 t2 t3 t4 t5 t6 t7 t8 t9 true v3 v4 v5 v6 v7 v8 v9 v10 v11 v12 (((w.setCell ⟨R, 0, none⟩ v5).setCell ⟨R, 1, none⟩ v8).setCell ⟨R, 2, none⟩ v11) := by
  have kr : Blk w R [.slice none 0 0, .slice none 0 0, .slice none 0 0] := by have := K.kr; rw [h10] at this; exact this
  have ks : ∀ {b n : Nat} {S : ByteArray → Bool}, SetIs w b n S → b ≠ R → SetIs (((w.setCell ⟨R, 0, none⟩ v5).setCell ⟨R, 1, none⟩ v8).setCell ⟨R, 2, none⟩ v11) b n S := fun {b n S} h hb => MapIs.setCell (MapIs.setCell (MapIs.setCell h hb _) hb _) hb _
  have ko : ∀ {v : Value} {L : List ByteArray}, OwnE 1 stC w W0.heap.size 9 v L → v.ownBlock ≠ some R → OwnE 1 stC (((w.setCell ⟨R, 0, none⟩ v5).setCell ⟨R, 1, none⟩ v8).setCell ⟨R, 2, none⟩ v11) W0.heap.size 9 v L := fun {v L} h hb => ((h.set_other _ hb).set_other _ hb).set_other _ hb
  refine ⟨((K.bel.setCell K.lr _).setCell K.lr _).setCell K.lr _, K.lb, K.lr, K.ne, ⟨ks K.brd.s1 K.nr.1, ks K.brd.s2 K.nr.2.1, ks K.brd.s3 K.nr.2.2, K.brd.l1, K.brd.l2⟩, K.lo, K.nr, ((K.kb.other (p := ⟨R, 0, none⟩) (Ne.symm K.ne) _).other (p := ⟨R, 1, none⟩) (Ne.symm K.ne) _).other (p := ⟨R, 2, none⟩) (Ne.symm K.ne) _, ((kr.set 0 (by simp) v5).set 1 (by simp) v8).set 2 (by simp) v11, K.fa0, K.ld0, fun h => ⟨(K.ow0 h).1, ko (K.ow0 h).2.1 (K.ow0 h).2.2, (K.ow0 h).2.2⟩, K.fa1, K.ld1, fun h => ⟨(K.ow1 h).1, ko (K.ow1 h).2.1 (K.ow1 h).2.2, (K.ow1 h).2.2⟩, K.fa2, K.ld2, fun h => ⟨(K.ow2 h).1, ko (K.ow2 h).2.1 (K.ow2 h).2.2, (K.ow2 h).2.2⟩, K.fr01, K.fr02, K.fr12, K.cl9, fun _ => h9, K.bd⟩
set_option maxRecDepth 20000 in
set_option maxHeartbeats 4000000 in
theorem panel_any (b1 b2 b3 n1 n2 n3 : Nat) (S1 S2 S3 : ByteArray → Bool) (L1 L2 L3 : List ByteArray) (w : World) (hb : Brd w b1 b2 b3 n1 n2 n3 S1 S2 S3) (h1 : n1 ≤ 1000) (h2 : n2 ≤ 1000) (h3 : n3 ≤ 1000)
    (r1 : riseS L1 = true) (r2 : riseS L2 = true) (r3 : riseS L3 = true) (m1 : ∀ s, s ∈ L1 ↔ S1 s = true) (m2 : ∀ s, s ∈ L2 ↔ S2 s = true) (m3 : ∀ s, s ∈ L3 ↔ S3 s = true) :
    Calls Try.prog 21 #[.agg #[.map (some b1), .map (some b2), .map (some b3)]] w fun e w' => ∃ a1 c1 a2 c2 a3 c3, e = .returned (.agg #[.slice a1 L1.length c1, .slice a2 L2.length c2, .slice a3 L3.length c3]) ∧ PnOwn w' w.heap.size a1 a2 a3 L1.length c1 L2.length c2 L3.length c3 L1 L2 L3 ∧ Below w.heap.size w w' := by
  have HB := hide hb
  have q1 := MapIs.lt hb.s1
  have q2 := MapIs.lt hb.s2
  have q3 := MapIs.lt hb.s3
  have HH := hide (And.intro h1 (And.intro h2 h3))
  have HR := hide (And.intro r1 (And.intro r2 r3))
  have HM := hide (And.intro m1 (And.intro m2 m3))
  have HQ := hide (And.intro q1 (And.intro q2 q3))
  clear hb h1 h2 h3 r1 r2 r3 m1 m2 m3 q1 q2 q3
  go_enter Try.func21, Try.ntmps21
  go_wp2_with fail
  refine wp_region_flags (by kernel_rfl) (by kernel_rfl) (fun l a W => ∃ v3 v4 v5 v6 v7 v8 v9 v10 v11 v12, a = { tmps := #[.agg #[.map (some b1), .map (some b2), .map (some b3)], .pointer (some ⟨w.heap.size, 0, none⟩), .pointer (some ⟨w.heap.size + 1, 0, none⟩), v3, v4, v5, v6, v7, v8, v9, v10, v11, v12], defers := [] } ∧ PanI w w.heap.size (w.heap.size + 1) b1 b2 b3 n1 n2 n3 S1 S2 S3 L1 L2 L3 (l 0) (l 1) (l 2) (l 3) (l 4) (l 5) (l 6) (l 7) (l 8) (l 9) (l 10) v3 v4 v5 v6 v7 v8 v9 v10 v11 v12 W) ?_ ?_ ?_
  · refine ⟨_, _, _, _, _, _, _, _, _, _, rfl, ?_⟩
    have hb := unhide HB
    obtain ⟨q1, q2, q3⟩ := unhide HQ
    have bd : Brd ((w.alloc (Obj.cells #[.map (some b1), .map (some b2), .map (some b3)] 56)).alloc (Obj.cells #[.slice none 0 0, .slice none 0 0, .slice none 0 0] 31)).drew b1 b2 b3 n1 n2 n3 S1 S2 S3 := hb.below ((bel2 _ _).trans (bel0d' 1))
    have k1 : Blk ((w.alloc (Obj.cells #[.map (some b1), .map (some b2), .map (some b3)] 56)).alloc (Obj.cells #[.slice none 0 0, .slice none 0 0, .slice none 0 0] 31)).drew w.heap.size [.map (some b1), .map (some b2), .map (some b3)] := ((Blk.new _ _).alloc _).drewN 1
    have k2 : Blk ((w.alloc (Obj.cells #[.map (some b1), .map (some b2), .map (some b3)] 56)).alloc (Obj.cells #[.slice none 0 0, .slice none 0 0, .slice none 0 0] 31)).drew (w.heap.size + 1) [.slice none 0 0, .slice none 0 0, .slice none 0 0] := by
      have e : (w.alloc (Obj.cells #[.map (some b1), .map (some b2), .map (some b3)] 56)).heap.size = w.heap.size + 1 := by simp
      have k2 := (Blk.new (w := w.alloc (Obj.cells #[.map (some b1), .map (some b2), .map (some b3)] 56)) [.slice none 0 0, .slice none 0 0, .slice none 0 0] 31).drewN 1
      rw [e] at k2
      exact k2
    exact ⟨(bel2 _ _).trans (bel0d' 1), Nat.le_refl _, Nat.le_succ _, by omega, bd, .inr q3, ⟨by omega, by omega, by omega⟩, k1, k2, (fun h => by cases h), (fun h => by cases h), (fun h => by cases h), (fun h => by cases h), (fun h => by cases h), (fun h => by cases h), (fun h => by cases h), (fun h => by cases h), (fun h => by cases h), (fun h => by cases h), (fun h => by cases h), (fun h => by cases h), (fun h => by cases h), (fun h => by cases h), (fun h => by cases h)⟩
  · rintro l a W hall ⟨v3, v4, v5, v6, v7, v8, v9, v10, v11, v12, rfl, K⟩
    obtain ⟨⟨a1, c1, e1⟩, o1, p1⟩ := K.ow0 (hall 2 (by decide))
    obtain ⟨⟨a2, c2, e2⟩, o2, p2⟩ := K.ow1 (hall 5 (by decide))
    obtain ⟨⟨a3, c3, e3⟩, o3, p3⟩ := K.ow2 (hall 8 (by decide))
    have f12 := K.fr01 (hall 2 (by decide)) (hall 5 (by decide))
    have f13 := K.fr02 (hall 2 (by decide)) (hall 8 (by decide))
    have f23 := K.fr12 (hall 5 (by decide)) (hall 8 (by decide))
    have kr := K.kr
    rw [hall 10 (by decide)] at kr
    subst e1
    subst e2
    subst e3
    have HBL := hide K.bel
    have HPN : Hid (PnOwn W w.heap.size a1 a2 a3 L1.length c1 L2.length c2 L3.length c3 L1 L2 L3) := hide ⟨o1, o2, o3, f12, f13, f23⟩
    have HKR : Hid (Blk W (w.heap.size + 1) [.slice a1 L1.length c1, .slice a2 L2.length c2, .slice a3 L3.length c3]) := hide kr
    clear K o1 o2 o3 p1 p2 p3 f12 f13 f23 kr hall
    go_wp2_with fail
    exact bodyPost_ret (results_cell (vs := [.slice a1 L1.length c1, .slice a2 L2.length c2, .slice a3 L3.length c3]) rfl Try.isAgg31 Try.sizeOf31 rfl (unhide HKR)) rfl ⟨a1, c1, a2, c2, a3, c3, rfl, unhide HPN, unhide HBL⟩
  · rintro l a W i o ho hl hd ⟨v3, v4, v5, v6, v7, v8, v9, v10, v11, v12, rfl, K⟩
    have hi : i < 11 := (Array.getElem?_eq_some_iff.1 ho).1
    rcases (show i = 0 ∨ i = 1 ∨ i = 2 ∨ i = 3 ∨ i = 4 ∨ i = 5 ∨ i = 6 ∨ i = 7 ∨ i = 8 ∨ i = 9 ∨ i = 10 from by omega) with rfl | rfl | rfl | rfl | rfl | rfl | rfl | rfl | rfl | rfl | rfl
    · simp at ho
      subst ho
      go_wp2_with fail
      exact ⟨rfl, _, _, _, _, _, _, _, _, _, _, rfl, K.step0⟩
    · simp at ho
      subst ho
      have d0 : l 0 = true := hd ⟨0, .data⟩ (by simp) rfl
      have e1 := K.fa0 d0
      subst e1
      have c0 : W.cell? ⟨w.heap.size, 0, none⟩ = some (.map (some b1)) := K.kb.c 0 (by simp)
      have HK := hide K
      clear K hd hl d0
      go_wp2_with fail
      exact ⟨rfl, _, _, _, _, _, _, _, _, _, _, rfl, (unhide HK).step1⟩
    · simp at ho
      subst ho
      have d1 : l 1 = true := hd ⟨1, .data⟩ (by simp) rfl
      have e1 := K.ld0 d1
      subst e1
      have HC := hide (sorted_is b1 n1 S1 L1 W K.brd.s1 (unhide HH).1 (unhide HR).1 (unhide HM).1)
      have HK := hide K
      have HL := hide hl
      clear K hd hl d1
      go_wp2_with (go_at_call 36; refine (unhide HC).mono ?_; rintro e w2 ⟨a9, c9, rfl, o9, b9⟩; have K9 := hide ((unhide HK).step2 (unhide HL) b9 ⟨a9, c9, rfl⟩ o9); clear o9 b9)
      exact ⟨rfl, _, _, _, _, _, _, _, _, _, _, rfl, unhide K9⟩
    · simp at ho
      subst ho
      go_wp2_with fail
      exact ⟨rfl, _, _, _, _, _, _, _, _, _, _, rfl, K.step3⟩
    · simp at ho
      subst ho
      have d3 : l 3 = true := hd ⟨3, .data⟩ (by simp) rfl
      have e1 := K.fa1 d3
      subst e1
      have c0 : W.cell? ⟨w.heap.size, 1, none⟩ = some (.map (some b2)) := K.kb.c 1 (by simp)
      have HK := hide K
      clear K hd hl d3
      go_wp2_with fail
      exact ⟨rfl, _, _, _, _, _, _, _, _, _, _, rfl, (unhide HK).step4⟩
    · simp at ho
      subst ho
      have d4 : l 4 = true := hd ⟨4, .data⟩ (by simp) rfl
      have e1 := K.ld1 d4
      subst e1
      have HC := hide (sorted_is b2 n2 S2 L2 W K.brd.s2 (unhide HH).2.1 (unhide HR).2.1 (unhide HM).2.1)
      have HK := hide K
      have HL := hide hl
      clear K hd hl d4
      go_wp2_with (go_at_call 36; refine (unhide HC).mono ?_; rintro e w2 ⟨a9, c9, rfl, o9, b9⟩; have K9 := hide ((unhide HK).step5 (unhide HL) b9 ⟨a9, c9, rfl⟩ o9); clear o9 b9)
      exact ⟨rfl, _, _, _, _, _, _, _, _, _, _, rfl, unhide K9⟩
    · simp at ho
      subst ho
      go_wp2_with fail
      exact ⟨rfl, _, _, _, _, _, _, _, _, _, _, rfl, K.step6⟩
    · simp at ho
      subst ho
      have d6 : l 6 = true := hd ⟨6, .data⟩ (by simp) rfl
      have e1 := K.fa2 d6
      subst e1
      have c0 : W.cell? ⟨w.heap.size, 2, none⟩ = some (.map (some b3)) := K.kb.c 2 (by simp)
      have HK := hide K
      clear K hd hl d6
      go_wp2_with fail
      exact ⟨rfl, _, _, _, _, _, _, _, _, _, _, rfl, (unhide HK).step7⟩
    · simp at ho
      subst ho
      have d7 : l 7 = true := hd ⟨7, .data⟩ (by simp) rfl
      have e1 := K.ld2 d7
      subst e1
      have HC := hide (sorted_is b3 n3 S3 L3 W K.brd.s3 (unhide HH).2.2 (unhide HR).2.2 (unhide HM).2.2)
      have HK := hide K
      have HL := hide hl
      clear K hd hl d7
      go_wp2_with (go_at_call 36; refine (unhide HC).mono ?_; rintro e w2 ⟨a9, c9, rfl, o9, b9⟩; have K9 := hide ((unhide HK).step8 (unhide HL) b9 ⟨a9, c9, rfl⟩ o9); clear o9 b9)
      exact ⟨rfl, _, _, _, _, _, _, _, _, _, _, rfl, unhide K9⟩
    · simp at ho
      subst ho
      have d2 : l 2 = true := hd ⟨2, .data⟩ (by simp) rfl
      have d5 : l 5 = true := hd ⟨5, .data⟩ (by simp) rfl
      have d8 : l 8 = true := hd ⟨8, .data⟩ (by simp) rfl
      obtain ⟨⟨a1, c1, e1⟩, _, _⟩ := K.ow0 d2
      obtain ⟨⟨a2, c2, e2⟩, _, _⟩ := K.ow1 d5
      obtain ⟨⟨a3, c3, e3⟩, _, _⟩ := K.ow2 d8
      have HK := hide (K.step9 d2 d5 d8)
      clear K hd hl d2 d5 d8
      subst e1
      subst e2
      subst e3
      go_wp2_with fail
      exact ⟨rfl, _, _, _, _, _, _, _, _, _, _, rfl, unhide HK⟩
    · simp at ho
      subst ho
      have d9 : l 9 = true := hd ⟨9, .data⟩ (by simp) rfl
      have d2 : l 2 = true := hd ⟨2, .phase⟩ (by simp) rfl
      have d5 : l 5 = true := hd ⟨5, .phase⟩ (by simp) rfl
      have d8 : l 8 = true := hd ⟨8, .phase⟩ (by simp) rfl
      obtain ⟨⟨a1, c1, e1⟩, _, _⟩ := K.ow0 d2
      obtain ⟨⟨a2, c2, e2⟩, _, _⟩ := K.ow1 d5
      obtain ⟨⟨a3, c3, e3⟩, _, _⟩ := K.ow2 d8
      have e4 := K.bd d9
      have kr := K.kr
      rw [hl] at kr
      have x0 := kr.c 0 (by simp)
      have x1 := kr.c 1 (by simp)
      have x2 := kr.c 2 (by simp)
      have f0 := kr.f 0 (by simp)
      have f1 := kr.f 1 (by simp)
      have f2 := kr.f 2 (by simp)
      have HK := hide (K.step10 d2 d5 d8 d9 hl)
      clear K kr hd hl d2 d5 d8 d9
      subst e4
      subst e1
      subst e2
      subst e3
      go_wp2_with fail
      exact ⟨rfl, _, _, _, _, _, _, _, _, _, _, rfl, unhide HK⟩

end Go.Proofs.Ytfehfocfoegbdaa
