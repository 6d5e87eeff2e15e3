/-
  Take18's last region (a place, a copy, an insertion, a store): what is so at any point of any order. No program walk here.
  What Effective answers, as a shape of its own. No program here.
-/
import Derived.Test.YtemodlgmjgdjpaaGreatDoorTkDelA
import Derived.Test.YtemodlgmjgdjpaaGreatDoorInsX
import Derived.Test.YtemodlgmjgdjpaaGreatDoorRegInv
import Derived.Test.YtemodlgmjgdjpaaGreatDoorMCpPure
import Derived.Test.YtemodlgmjgdjpaaGreatDoorTsPure
import Derived.Test.YtemodlgmjgdjpaaGreatDoorMAiLst
import Derived.Test.YtemodlgmjgdjpaaGreatDoorMKeeps

namespace Go.Proofs.YtemodlgmjgdjpaaGreatDoor
open Go Go.RowKit

/-- The load with its bytes in a block of their own. -/
def xG (x : Lx) (G : Nat) : Lx := { x with d := { x.d with a := some ⟨G, 0, none⟩, c := x.d.n } }
theorem ownE_types {α β : Type} [Inhabited α] [Inhabited β] {K1 K2 : Nat} {c1 : α → Nat → Value} {c2 : β → Nat → Value} {w : World} {b1 b2 : Nat} {T1 T2 : TypeId} {v1 v2 : Value} {p1 : List α} {p2 : List β} (h1 : OwnE K1 c1 w b1 T1 v1 p1) (h2 : OwnE K2 c2 w b2 T2 v2 p2) (hne : T1 ≠ T2) : ∀ q, v1.ownBlock = some q → v2.ownBlock ≠ some q := by
  intro q e1 e2
  obtain ⟨xs1, ⟨_, o1⟩, _⟩ := h1.own
  obtain ⟨xs2, ⟨_, o2⟩, _⟩ := h2.own
  rcases o1 with ⟨rfl, _⟩ | ⟨g1, cp1, cur1, rfl, _, k1, _⟩
  · simp [Value.ownBlock] at e1
  rcases o2 with ⟨rfl, _⟩ | ⟨g2, cp2, cur2, rfl, _, k2, _⟩
  · simp [Value.ownBlock] at e2
  simp only [Value.ownBlock, Option.some.injEq] at e1 e2
  subst e1
  subst e2
  have e := Option.some.inj (k1.symm.trans k2)
  simp only [Obj.cells.injEq] at e
  exact hne e.2.1
structure TkQ (U : World) (s : Int) (x : Lx) (T4 : Nat) (Q : Nat) (g : Nat) (m : Nat) (cp : Nat) (base : Nat) (us : List Lx) (k : Nat) (t0 t1 t2 t3 t4 t5 t6 t7 t8 t9 t10 t11 : Bool) (v0 v1 v2 v3 v4 v5 v6 v7 v8 v9 v10 : Value) (W : World) : Prop where
  be : t9 = false → Below U.heap.size U W
  e0 : t0 = true → v0 = .pointer (some ⟨Q, 1, none⟩)
  e1 : t1 = true → v1 = .slice (some ⟨g, 0, none⟩) m cp
  e2 : t2 = true → v2 = .agg #[.int .i64 s, .slice (some ⟨g, 0, none⟩) m cp]
  e3 : t3 = true → v3 = .pointer (some ⟨T4, 1, none⟩)
  e4 : t4 = true → v4 = .int .i64 x.nb
  e5 : t5 = true → v5 = .int .i64 (k : Int)
  e6 : t6 = true → v6 = .agg #[.string x.p, .int .i64 x.nb, .int .i64 x.le, .int .i64 x.mo, .int .i64 x.ne, .slice x.d.a x.d.n x.d.c]
  e7 : t7 = true → t8 = false → ∃ G, v7 = .agg #[.string x.p, .int .i64 x.nb, .int .i64 x.le, .int .i64 x.mo, .int .i64 x.ne, .slice (some ⟨G, 0, none⟩) x.d.n x.d.n] ∧ OwnE 1 byC W U.heap.size 5 (.slice (some ⟨G, 0, none⟩) x.d.n x.d.n) x.d.zs
  e8 : t8 = true → t9 = false → ∃ G B, v8 = .slice (some ⟨B, 0, none⟩) 1 1 ∧ U.heap.size ≤ B ∧ W.heap[B]? = some (.cells #[.string x.p, .int .i64 x.nb, .int .i64 x.le, .int .i64 x.mo, .int .i64 x.ne, .slice (some ⟨G, 0, none⟩) x.d.n x.d.n] 32 (0, 0)) ∧ OwnE 1 byC W U.heap.size 5 (.slice (some ⟨G, 0, none⟩) x.d.n x.d.n) x.d.zs
  e9 : t9 = true → t11 = false → ∃ G g' cp', v9 = .slice (some ⟨g', 0, none⟩) (m + 1) cp' ∧ U.heap.size ≤ G ∧ OwnE 1 byC W U.heap.size 5 (.slice (some ⟨G, 0, none⟩) x.d.n x.d.n) x.d.zs ∧ OwnE 6 lxC W base 32 (.slice (some ⟨g', 0, none⟩) (m + 1) cp') (insL us k (xG x G)) ∧ U.grownBy W (some g)
  e10 : t10 = true → v10 = .pointer (some ⟨Q, 1, none⟩)
  e11 : t11 = true → ∃ G g' cp' W0, W = W0.setCell ⟨Q, 1, none⟩ (.slice (some ⟨g', 0, none⟩) (m + 1) cp') ∧ U.heap.size ≤ G ∧ OwnE 1 byC W0 U.heap.size 5 (.slice (some ⟨G, 0, none⟩) x.d.n x.d.n) x.d.zs ∧ OwnE 6 lxC W0 base 32 (.slice (some ⟨g', 0, none⟩) (m + 1) cp') (insL us k (xG x G)) ∧ U.grownBy W0 (some g)
  c5a : t5 = true → t2 = true
  c5b : t5 = true → t4 = true
  c7 : t7 = true → t6 = true
  c8 : t8 = true → t7 = true
  c9a : t9 = true → t1 = true
  c9b : t9 = true → t5 = true
  c9c : t9 = true → t8 = true
  c11 : t11 = true → t9 = true
theorem heap_lt {W : World} {B : Nat} {o : Obj} (h : W.heap[B]? = some o) : B < W.heap.size := (Array.getElem?_eq_some_iff.1 h).1
theorem TkQ.below {U : World} {s : Int} {x : Lx} {T4 : Nat} {Q : Nat} {g : Nat} {m : Nat} {cp : Nat} {base : Nat} {us : List Lx} {k : Nat} {t0 t1 t2 t3 t4 t5 t6 t7 t8 t9 t10 t11 : Bool} {v0 v1 v2 v3 v4 v5 v6 v7 v8 v9 v10 : Value} {W W' : World} (K : TkQ U s x T4 Q g m cp base us k t0 t1 t2 t3 t4 t5 t6 t7 t8 t9 t10 t11 v0 v1 v2 v3 v4 v5 v6 v7 v8 v9 v10 W) (h9 : t9 = false) (kb : Below W.heap.size W W') : TkQ U s x T4 Q g m cp base us k t0 t1 t2 t3 t4 t5 t6 t7 t8 t9 t10 t11 v0 v1 v2 v3 v4 v5 v6 v7 v8 v9 v10 W' :=
  ⟨(fun h => (K.be h).trans (kb.mono (K.be h).size)), (K.e0), (K.e1), (K.e2), (K.e3), (K.e4), (K.e5), (K.e6), (fun h1 h2 => by obtain ⟨G, x1, x2⟩ := K.e7 h1 h2; exact ⟨G, x1, x2.below kb⟩), (fun h1 h2 => by obtain ⟨G, B, x1, x2, x3, x4⟩ := K.e8 h1 h2; exact ⟨G, B, x1, x2, (kb.block B (heap_lt x3)).trans x3, x4.below kb⟩), (fun h => by cases h9.symm.trans h), (K.e10), (fun h => by cases h9.symm.trans (K.c11 h)), (K.c5a), (K.c5b), (K.c7), (K.c8), (K.c9a), (K.c9b), (K.c9c), (K.c11)⟩
def TkQJ (U : World) (s : Int) (x : Lx) (T4 : Nat) (Q : Nat) (g : Nat) (m : Nat) (cp : Nat) (base : Nat) (us : List Lx) (k : Nat) (A0 : Act) (l : Nat → Bool) (a : Act) (W : World) : Prop := ∃ (v0 v1 v2 v3 v4 v5 v6 v7 v8 v9 v10 : Value), a = (((((((((((A0.put (some 26) v0).put (some 27) v1).put (some 28) v2).put (some 29) v3).put (some 30) v4).put (some 31) v5).put (some 32) v6).put (some 33) v7).put (some 34) v8).put (some 35) v9).put (some 36) v10) ∧ TkQ U s x T4 Q g m cp base us k (l 0) (l 1) (l 2) (l 3) (l 4) (l 5) (l 6) (l 7) (l 8) (l 9) (l 10) (l 11) v0 v1 v2 v3 v4 v5 v6 v7 v8 v9 v10 W
theorem TkQJ.mk {U : World} {s : Int} {x : Lx} {T4 : Nat} {Q : Nat} {g : Nat} {m : Nat} {cp : Nat} {base : Nat} {us : List Lx} {k : Nat} {A0 : Act} {l : Nat → Bool} {a : Act} {W : World} {v0 v1 v2 v3 v4 v5 v6 v7 v8 v9 v10 : Value} (K : TkQ U s x T4 Q g m cp base us k (l 0) (l 1) (l 2) (l 3) (l 4) (l 5) (l 6) (l 7) (l 8) (l 9) (l 10) (l 11) v0 v1 v2 v3 v4 v5 v6 v7 v8 v9 v10 W) (h : a = (((((((((((A0.put (some 26) v0).put (some 27) v1).put (some 28) v2).put (some 29) v3).put (some 30) v4).put (some 31) v5).put (some 32) v6).put (some 33) v7).put (some 34) v8).put (some 35) v9).put (some 36) v10)) : TkQJ U s x T4 Q g m cp base us k A0 l a W := ⟨v0, v1, v2, v3, v4, v5, v6, v7, v8, v9, v10, h, K⟩

end Go.Proofs.YtemodlgmjgdjpaaGreatDoor

namespace Go.Proofs.YtemodlgmjgdjpaaGreatDoor
open Go Go.RowKit

/-- The answer: the places in memory of its own, and whether all was right. -/
def EfP (w : World) (s : Int) (zs ms : List Lc) (e : Ending) (w' : World) : Prop :=
  ∃ a9 c9, e = .returned (.tuple #[.slice a9 (efL s zs ms).length c9, .bool (efB s zs ms)]) ∧ OwnI w' w.heap.size (.slice a9 (efL s zs ms).length c9) (efL s zs ms) ∧ Below w.heap.size w w'
theorem EfP.no {w w' : World} {s : Int} {zs ms : List Lc} {a : Option Addr} {c : Nat} (h : efB s zs ms = false) (hO : OwnI w' w.heap.size (.slice a 0 c) []) (hb : Below w.heap.size w w') : EfP w s zs ms (.returned (.tuple #[.slice a 0 c, .bool false])) w' := by
  have e : efL s zs ms = [] := by rw [efL, if_neg (by rw [h]; simp)]
  exact ⟨a, c, by rw [e, h]; rfl, by rw [e]; exact hO, hb⟩
theorem EfP.yes {w w' : World} {s : Int} {zs ms : List Lc} {a : Option Addr} {c n lb : Nat} (h : efB s zs ms = true) (hl : ms.length = lb) (hn : (efK s zs ms lb).length = n) (hO : OwnI w' w.heap.size (.slice a n c) (efK s zs ms lb)) (hb : Below w.heap.size w w') : EfP w s zs ms (.returned (.tuple #[.slice a n c, .bool true])) w' := by
  have e : efL s zs ms = efK s zs ms lb := by rw [efL, if_pos h, hl]
  exact ⟨a, c, by rw [e, h, hn], by rw [e, hn]; exact hO, hb⟩
theorem ef_ab {s : Int} {zs ms : List Lc} (h : abB s zs = false) : efB s zs ms = false := by simp [efB, h]
theorem ef_many {s : Int} {zs ms : List Lc} (h : 30 < ms.length) : efB s zs ms = false := by
  have : ¬ ms.length ≤ 30 := by omega
  simp [efB, this]
theorem ef_all {s : Int} {zs ms : List Lc} (h1 : abB s zs = true) (h2 : ms.length ≤ 30) (h3 : ∀ i, i < ms.length → ldB (elAt ms i) = true) : efB s zs ms = true := by
  simp only [efB, h1, Bool.true_and, Bool.and_eq_true, decide_eq_true_eq]; exact ⟨h2, h3⟩
theorem efK_in {s : Int} {zs ms : List Lc} {k : Nat} (h : tkC s zs (elAt ms k) (seO (elAt ms k)) = 0) : efK s zs ms (k + 1) = efK s zs ms k ++ [(k : Int)] := by rw [efK, if_pos h]
theorem efK_out {s : Int} {zs ms : List Lc} {k : Nat} (h : ¬ tkC s zs (elAt ms k) (seO (elAt ms k)) = 0) : efK s zs ms (k + 1) = efK s zs ms k := by rw [efK, if_neg h]

end Go.Proofs.YtemodlgmjgdjpaaGreatDoor
