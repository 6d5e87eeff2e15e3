/-
  What the model's Get16 answers of a frame that is well: its word, the bytes in memory of their own. Nothing that was there is written. (Its last region draws its order: by an invariant.)
-/
import Derived.Test.YticdccdkjepifaaBuGet
import Derived.Test.YticdccdkjepifaaRegInv
namespace Go.Proofs.Yticdccdkjepifaa
open Go.RowKit

structure GwR (w : World) (bb off len cap N K : Nat) (zs : List Int) (t0 t1 t2 t3 t4 t5 t6 t7 t8 t9 t10 t11 t12 t13 t14 t15 t16 : Bool) (v0 v1 v2 v3 v4 v5 v6 v7 v8 v9 v10 v11 v12 v13 v14 v15 : Value) (W : World) : Prop where
  bel : Below w.heap.size w W
  k0 : Blk W w.heap.size (bif t15 then [.int .i64 (elAt zs 0), .int .i64 (elAt zs 1), v13] else [.int .i64 0, .int .i64 0, .slice none 0 0])
  e0 : t0 = true → v0 = .slice (some ⟨bb, off, none⟩) len cap
  e1 : t1 = true → v1 = .pointer (some ⟨bb, off, none⟩)
  e2 : t2 = true → v2 = .int .u8 (elAt zs 0)
  e3 : t3 = true → v3 = .int .i64 (elAt zs 0)
  e4 : t4 = true → v4 = .slice (some ⟨bb, off, none⟩) len cap
  e5 : t5 = true → v5 = .pointer (some ⟨bb, off + 1, none⟩)
  e6 : t6 = true → v6 = .int .u8 (elAt zs 1)
  e7 : t7 = true → v7 = .int .i64 (elAt zs 1)
  e8 : t8 = true → t13 = false → ∃ g, v8 = .slice (some ⟨g, 0, none⟩) 0 0 ∧ OwnE 1 byC W w.heap.size 5 v8 [] ∧ g ≠ w.heap.size
  e9 : t9 = true → v9 = .slice (some ⟨bb, off, none⟩) len cap
  e10 : t10 = true → v10 = .int .i64 (len : Int)
  e11 : t11 = true → v11 = .int .i64 (N : Int)
  e12 : t12 = true → v12 = .slice (some ⟨bb, off + 3, none⟩) K (cap - 3)
  e13 : t13 = true → ∃ g c, v13 = .slice (some ⟨g, 0, none⟩) K c ∧ OwnE 1 byC W w.heap.size 5 v13 ((zs.drop 3).take K) ∧ g ≠ w.heap.size
  e14 : t14 = true → v14 = .agg #[.int .i64 (elAt zs 0), .int .i64 (elAt zs 1), v13]
  e16 : t16 = true → v15 = .int .i64 0
  n14 : t14 = true → t13 = true
  n15 : t15 = true → t14 = true
def GwRJ (w : World) (bb off len cap N K : Nat) (zs : List Int) (A0 : Act) (l : Nat → Bool) (b : Act) (V : World) : Prop := ∃ (v0 v1 v2 v3 v4 v5 v6 v7 v8 v9 v10 v11 v12 v13 v14 v15 : Value), b = ((((((((((((((((A0.put (some 55) v0).put (some 56) v1).put (some 57) v2).put (some 58) v3).put (some 59) v4).put (some 60) v5).put (some 61) v6).put (some 62) v7).put (some 63) v8).put (some 64) v9).put (some 65) v10).put (some 66) v11).put (some 67) v12).put (some 68) v13).put (some 69) v14).put (some 3) v15) ∧ GwR w bb off len cap N K zs (l 0) (l 1) (l 2) (l 3) (l 4) (l 5) (l 6) (l 7) (l 8) (l 9) (l 10) (l 11) (l 12) (l 13) (l 14) (l 15) (l 16) v0 v1 v2 v3 v4 v5 v6 v7 v8 v9 v10 v11 v12 v13 v14 v15 V
theorem GwRJ.mk {w : World} {bb off len cap N K : Nat} {zs : List Int} {A0 : Act} {l : Nat → Bool} {b : Act} {V : World} {v0 v1 v2 v3 v4 v5 v6 v7 v8 v9 v10 v11 v12 v13 v14 v15 : Value} (K_ : GwR w bb off len cap N K zs (l 0) (l 1) (l 2) (l 3) (l 4) (l 5) (l 6) (l 7) (l 8) (l 9) (l 10) (l 11) (l 12) (l 13) (l 14) (l 15) (l 16) v0 v1 v2 v3 v4 v5 v6 v7 v8 v9 v10 v11 v12 v13 v14 v15 V) (h : b = ((((((((((((((((A0.put (some 55) v0).put (some 56) v1).put (some 57) v2).put (some 58) v3).put (some 59) v4).put (some 60) v5).put (some 61) v6).put (some 62) v7).put (some 63) v8).put (some 64) v9).put (some 65) v10).put (some 66) v11).put (some 67) v12).put (some 68) v13).put (some 69) v14).put (some 3) v15)) : GwRJ w bb off len cap N K zs A0 l b V := ⟨v0, v1, v2, v3, v4, v5, v6, v7, v8, v9, v10, v11, v12, v13, v14, v15, h, K_⟩


end Go.Proofs.Yticdccdkjepifaa
