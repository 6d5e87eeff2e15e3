/-
  FnSizes' two regions of two calls and two new structs: what is so at any point of any order. No program here but the type of a complex number's cells.
-/
import Derived.Test.YtomcbbpaajpeiaaSzDs
import Derived.Test.YtomcbbpaajpeiaaRegInv
namespace Go.Proofs.Ytomcbbpaajpeiaa
open Go Go.RowKit

structure SzR (V : World) (P : Nat) (R : Nat) (A : Nat) (B : Nat) (c : Nat) (d : Nat) (G1 : Nat → Nat → Prop) (G2 : Nat → Nat → Prop) (t0 t1 t2 t3 t4 t5 t6 t7 t8 t9 : Bool) (v0 v1 v2 v3 v4 v5 v6 v7 : Value) (W : World) : Prop where
  a : Blk W P [.float .f64 A, .float .f64 B]
  b : Blk W R [.float .f64 c, .float .f64 d]
  bel : Below V.heap.size V W
  pl : P < V.heap.size
  rl : R < V.heap.size
  e0 : t0 = true → v0 = .agg #[.float .f64 A, .float .f64 B]
  e1 : t1 = true → v1 = .agg #[.float .f64 c, .float .f64 d]
  e2 : t2 = true → ∃ x y, v2 = .agg #[.float .f64 x, .float .f64 y] ∧ G1 x y
  e3 : t3 = true → v3 = .agg #[.float .f64 c, .float .f64 d]
  e4 : t4 = true → v4 = .agg #[.float .f64 A, .float .f64 B]
  e5 : t5 = true → ∃ x y, v5 = .agg #[.float .f64 x, .float .f64 y] ∧ G2 x y
  e6 : t6 = true → t8 = false → ∃ S, v6 = .pointer (some ⟨S, 0, none⟩) ∧ V.heap.size ≤ S ∧ Blk W S [.float .f64 0, .float .f64 0]
  f6 : t8 = true → ∃ S x y, v6 = .pointer (some ⟨S, 0, none⟩) ∧ V.heap.size ≤ S ∧ Blk W S [.float .f64 x, .float .f64 y] ∧ G1 x y
  e7 : t7 = true → t9 = false → ∃ S, v7 = .pointer (some ⟨S, 0, none⟩) ∧ V.heap.size ≤ S ∧ Blk W S [.float .f64 0, .float .f64 0]
  f7 : t9 = true → ∃ S x y, v7 = .pointer (some ⟨S, 0, none⟩) ∧ V.heap.size ≤ S ∧ Blk W S [.float .f64 x, .float .f64 y] ∧ G2 x y
  ne : t6 = true → t7 = true → ∀ S T, v6 = .pointer (some ⟨S, 0, none⟩) → v7 = .pointer (some ⟨T, 0, none⟩) → S ≠ T
  n8 : t8 = true → t6 = true
  n9 : t9 = true → t7 = true
theorem SzR.below {V : World} {P : Nat} {R : Nat} {A : Nat} {B : Nat} {c : Nat} {d : Nat} {G1 : Nat → Nat → Prop} {G2 : Nat → Nat → Prop} {t0 t1 t2 t3 t4 t5 t6 t7 t8 t9 : Bool} {v0 v1 v2 v3 v4 v5 v6 v7 : Value} {W W' : World} (K : SzR V P R A B c d G1 G2 t0 t1 t2 t3 t4 t5 t6 t7 t8 t9 v0 v1 v2 v3 v4 v5 v6 v7 W) (kb : Below W.heap.size W W') : SzR V P R A B c d G1 G2 t0 t1 t2 t3 t4 t5 t6 t7 t8 t9 v0 v1 v2 v3 v4 v5 v6 v7 W' :=
  ⟨(K.a.below kb), (K.b.below kb), (K.bel.trans (kb.mono K.bel.size)), (K.pl), (K.rl), (K.e0), (K.e1), (K.e2), (K.e3), (K.e4), (K.e5), (fun h1 h2 => by obtain ⟨S, x1, x2, x3⟩ := K.e6 h1 h2; exact ⟨S, x1, x2, x3.below kb⟩), (fun h1 => by obtain ⟨S, x, y, x1, x2, x3, x4⟩ := K.f6 h1; exact ⟨S, x, y, x1, x2, x3.below kb, x4⟩), (fun h1 h2 => by obtain ⟨S, x1, x2, x3⟩ := K.e7 h1 h2; exact ⟨S, x1, x2, x3.below kb⟩), (fun h1 => by obtain ⟨S, x, y, x1, x2, x3, x4⟩ := K.f7 h1; exact ⟨S, x, y, x1, x2, x3.below kb, x4⟩), (K.ne), (K.n8), (K.n9)⟩
def SzRJ (V : World) (P : Nat) (R : Nat) (A : Nat) (B : Nat) (c : Nat) (d : Nat) (G1 : Nat → Nat → Prop) (G2 : Nat → Nat → Prop) (S s6 s7 : Nat) (A0 : Act) (l : Nat → Bool) (a : Act) (W : World) : Prop := ∃ (v0 v1 v2 v3 v4 v5 v6 v7 : Value), a = ((((((((A0.put (some (S + 0)) v0).put (some (S + 1)) v1).put (some (S + 2)) v2).put (some (S + 3)) v3).put (some (S + 4)) v4).put (some (S + 5)) v5).put (some s6) v6).put (some s7) v7) ∧ SzR V P R A B c d G1 G2 (l 0) (l 1) (l 2) (l 3) (l 4) (l 5) (l 6) (l 7) (l 8) (l 9) v0 v1 v2 v3 v4 v5 v6 v7 W
theorem SzRJ.mk {V : World} {P : Nat} {R : Nat} {A : Nat} {B : Nat} {c : Nat} {d : Nat} {G1 : Nat → Nat → Prop} {G2 : Nat → Nat → Prop} {S s6 s7 : Nat} {A0 : Act} {l : Nat → Bool} {a : Act} {W : World} {v0 v1 v2 v3 v4 v5 v6 v7 : Value} (K : SzR V P R A B c d G1 G2 (l 0) (l 1) (l 2) (l 3) (l 4) (l 5) (l 6) (l 7) (l 8) (l 9) v0 v1 v2 v3 v4 v5 v6 v7 W) (h : a = ((((((((A0.put (some (S + 0)) v0).put (some (S + 1)) v1).put (some (S + 2)) v2).put (some (S + 3)) v3).put (some (S + 4)) v4).put (some (S + 5)) v5).put (some s6) v6).put (some s7) v7)) : SzRJ V P R A B c d G1 G2 S s6 s7 A0 l a W := ⟨v0, v1, v2, v3, v4, v5, v6, v7, h, K⟩

end Go.Proofs.Ytomcbbpaajpeiaa
