/-
  The model's Drop18: the plain answer, in memory of its own; nothing that was there is written. At lists of at most 1048576.
-/
import Derived.Test.YtemodlgmjgdjpaaGreatDoorMDlImp
import Derived.Test.YtemodlgmjgdjpaaGreatDoorAbSpec
import Derived.Test.YtemodlgmjgdjpaaGreatDoorRegInv
namespace Go.Proofs.YtemodlgmjgdjpaaGreatDoor
open Go Go.RowKit

theorem rowE_take {w : World} {a : Option Addr} {len : Nat} {us : List Lx} (h : RowE 6 lxC w a len us) (k : Nat) (hk : k ≤ len) : RowE 6 lxC w a k (us.take k) := by
  have hz := h.len_eq
  have hs := h.small
  refine ⟨by rw [List.length_take]; omega, by omega, fun i hi => ?_⟩
  obtain ⟨b, off, ha, hc⟩ := h.at_ i (by omega)
  exact ⟨b, off, ha, fun q hq => by rw [hc q hq, show elAt (us.take k) i = elAt us i by simp [elAt, hi]]⟩
theorem rowE_drop {w : World} {g len : Nat} {us : List Lx} (h : RowE 6 lxC w (some ⟨g, 0, none⟩) len us) (k : Nat) (hk : k ≤ len) : RowE 6 lxC w (some ⟨g, k * 6, none⟩) (len - k) (us.drop k) := by
  have hz := h.len_eq
  have hs := h.small
  refine ⟨by rw [List.length_drop]; omega, by omega, fun i hi => ⟨g, k * 6, rfl, fun q hq => ?_⟩⟩
  obtain ⟨b, off, ha, hc⟩ := h.at_ (k + i) (by omega)
  simp only [Option.some.injEq, Addr.mk.injEq, and_true] at ha
  obtain ⟨rfl, rfl⟩ := ha
  have := hc q hq
  rw [show elAt (us.drop k) i = elAt us (k + i) by simp [elAt, List.getElem?_drop], ← this]
  congr 2; omega
theorem rowE_zero {w : World} {a : Option Addr} {us : List Lx} (h : us = []) : RowE 6 lxC w a 0 us := ⟨by rw [h]; rfl, by omega, fun i hi => by omega⟩
structure DrR (w : World) (w5 : World) (B6 : Nat) (g : Nat) (n : Nat) (c : Nat) (k : Nat) (m : Nat) (d : Nat) (CX : Nat) (base : Nat) (s : Int) (XA : Option Addr) (us : List Lx) (t0 t1 t2 t3 t4 t5 t6 t7 t8 t9 t10 t11 t12 t13 : Bool) (v0 v1 v2 v3 v4 v5 v6 v7 v8 v9 v10 v11 v12 : Value) (W : World) : Prop where
  bel : Below w.heap.size w W
  siz : w5.heap.size ≤ W.heap.size
  k1 : Blk W (w.heap.size + 1) [.int .i64 0, .slice none 0 0]
  k6 : Blk W B6 (bif t13 then [.int .i64 s, v11] else [.int .i64 s, .slice (some ⟨g, 0, none⟩) n c])
  own : OwnLd W base (.slice (some ⟨g, 0, none⟩) n c) us
  e0 : t0 = true → t5 = false → ∃ H, v0 = .slice (some ⟨H, 0, none⟩) 0 0 ∧ OwnE 6 lxC W w5.heap.size 32 v0 []
  e1 : t1 = true → v1 = .pointer (some ⟨B6, 1, none⟩)
  e2 : t2 = true → v2 = .slice (some ⟨g, 0, none⟩) n c
  e3 : t3 = true → v3 = .int .i64 (k : Int)
  e4 : t4 = true → v4 = .slice (some ⟨g, 0, none⟩) k c
  e5 : t5 = true → t11 = false → ∃ H cap, v5 = .slice (some ⟨H, 0, none⟩) k cap ∧ OwnE 6 lxC W w5.heap.size 32 v5 (us.take k)
  e6 : t6 = true → v6 = .pointer (some ⟨B6, 1, none⟩)
  e7 : t7 = true → v7 = .slice (some ⟨g, 0, none⟩) n c
  e8 : t8 = true → v8 = .int .i64 (k : Int)
  e9 : t9 = true → v9 = .int .i64 ((k : Int) + 1)
  e10 : t10 = true → v10 = .slice XA d CX
  e11 : t11 = true → ∃ H cap, v11 = .slice (some ⟨H, 0, none⟩) m cap ∧ OwnE 6 lxC W w5.heap.size 32 v11 (dlL us k)
  e12 : t12 = true → v12 = .pointer (some ⟨B6, 1, none⟩)
  n5 : t5 = true → t0 = true
  n11 : t11 = true → t5 = true
  n13 : t13 = true → t11 = true ∧ t2 = true ∧ t7 = true
theorem DrR.below {w : World} {w5 : World} {B6 : Nat} {g : Nat} {n : Nat} {c : Nat} {k : Nat} {m : Nat} {d : Nat} {CX : Nat} {base : Nat} {s : Int} {XA : Option Addr} {us : List Lx} {t0 t1 t2 t3 t4 t5 t6 t7 t8 t9 t10 t11 t12 t13 : Bool} {v0 v1 v2 v3 v4 v5 v6 v7 v8 v9 v10 v11 v12 : Value} {W W' : World} (K : DrR w w5 B6 g n c k m d CX base s XA us t0 t1 t2 t3 t4 t5 t6 t7 t8 t9 t10 t11 t12 t13 v0 v1 v2 v3 v4 v5 v6 v7 v8 v9 v10 v11 v12 W) (kb : Below W.heap.size W W') : DrR w w5 B6 g n c k m d CX base s XA us t0 t1 t2 t3 t4 t5 t6 t7 t8 t9 t10 t11 t12 t13 v0 v1 v2 v3 v4 v5 v6 v7 v8 v9 v10 v11 v12 W' :=
  ⟨K.bel.trans (kb.mono K.bel.size), Nat.le_trans K.siz kb.size, K.k1.below kb, K.k6.below kb, K.own.below kb, fun h1 h2 => by obtain ⟨H, x1, x2⟩ := K.e0 h1 h2; exact ⟨H, x1, x2.below kb⟩, K.e1, K.e2, K.e3, K.e4, fun h1 h2 => by obtain ⟨H, cap, x1, x2⟩ := K.e5 h1 h2; exact ⟨H, cap, x1, x2.below kb⟩, K.e6, K.e7, K.e8, K.e9, K.e10, fun h1 => by obtain ⟨H, cap, x1, x2⟩ := K.e11 h1; exact ⟨H, cap, x1, x2.below kb⟩, K.e12, K.n5, K.n11, K.n13⟩
def DrRJ (w : World) (w5 : World) (B6 : Nat) (g : Nat) (n : Nat) (c : Nat) (k : Nat) (m : Nat) (d : Nat) (CX : Nat) (base : Nat) (s : Int) (XA : Option Addr) (us : List Lx) (S : Nat) (A0 : Act) (l : Nat → Bool) (a : Act) (V : World) : Prop := ∃ (v0 v1 v2 v3 v4 v5 v6 v7 v8 v9 v10 v11 v12 : Value), a = (((((((((((((A0.put (some (S + 0)) v0).put (some (S + 1)) v1).put (some (S + 2)) v2).put (some (S + 3)) v3).put (some (S + 4)) v4).put (some (S + 5)) v5).put (some (S + 6)) v6).put (some (S + 7)) v7).put (some (S + 8)) v8).put (some (S + 9)) v9).put (some (S + 10)) v10).put (some (S + 11)) v11).put (some (S + 12)) v12) ∧ DrR w w5 B6 g n c k m d CX base s XA us (l 0) (l 1) (l 2) (l 3) (l 4) (l 5) (l 6) (l 7) (l 8) (l 9) (l 10) (l 11) (l 12) (l 13) v0 v1 v2 v3 v4 v5 v6 v7 v8 v9 v10 v11 v12 V
theorem DrRJ.mk {w : World} {w5 : World} {B6 : Nat} {g : Nat} {n : Nat} {c : Nat} {k : Nat} {m : Nat} {d : Nat} {CX : Nat} {base : Nat} {s : Int} {XA : Option Addr} {us : List Lx} {S : Nat} {A0 : Act} {l : Nat → Bool} {a : Act} {V : World} {v0 v1 v2 v3 v4 v5 v6 v7 v8 v9 v10 v11 v12 : Value} (K : DrR w w5 B6 g n c k m d CX base s XA us (l 0) (l 1) (l 2) (l 3) (l 4) (l 5) (l 6) (l 7) (l 8) (l 9) (l 10) (l 11) (l 12) (l 13) v0 v1 v2 v3 v4 v5 v6 v7 v8 v9 v10 v11 v12 V) (h : a = (((((((((((((A0.put (some (S + 0)) v0).put (some (S + 1)) v1).put (some (S + 2)) v2).put (some (S + 3)) v3).put (some (S + 4)) v4).put (some (S + 5)) v5).put (some (S + 6)) v6).put (some (S + 7)) v7).put (some (S + 8)) v8).put (some (S + 9)) v9).put (some (S + 10)) v10).put (some (S + 11)) v11).put (some (S + 12)) v12)) : DrRJ w w5 B6 g n c k m d CX base s XA us S A0 l a V := ⟨v0, v1, v2, v3, v4, v5, v6, v7, v8, v9, v10, v11, v12, h, K⟩
theorem OwnLd.far_out {w w' : World} {base b u H : Nat} {v : Value} {us : List Lx} (h : OwnLd w base v us) (hl : LxLies b u v us) (hS : u ≤ H) (gr : w.grownBy w' (some H)) : OwnLd w' base v us :=
  ⟨h.out.far gr (fun q hq e => by have := (hl.1 q hq).2; have := Option.some.inj e; omega), fun i hi => (h.dat i hi).far gr (fun q hq e => by have := (hl.2 i hi q hq).2; have := Option.some.inj e; omega), h.apt, h.par⟩

end Go.Proofs.YtemodlgmjgdjpaaGreatDoor
