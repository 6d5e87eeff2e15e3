/-
  A word that is drawn: some link, some sequence, some bytes, in new memory. Nothing that was there is written.
-/
import Derived.Test.YticdccdkjepifaaDraw
import Derived.Test.YticdccdkjepifaaMAppI
import Derived.Test.YticdccdkjepifaaRowBy
import Derived.Test.YticdccdkjepifaaRegInv
import Derived.Test.YticdccdkjepifaaMAppR
import Derived.Test.YticdccdkjepifaaBuGet
import Derived.Deep.Cut
import Derived.Laws.OwnMore
namespace Go.Proofs.Yticdccdkjepifaa
open Go Go.RowKit

/-- The word that is being drawn: the cursor, the result's block, the word's block, its bytes. -/
structure Dw (w W : World) (C R X : Nat) (a : Option Addr) (len cap : Nat) (l s : Int) (v : Value) (ds : List Int) : Prop where
  dr : Dr w C a len cap W
  res : Blk W R [.int .i64 0, .int .i64 0, .slice none 0 0]
  box : Blk W X [.int .i64 l, .int .i64 s, v]
  own : OwnE 1 byC W (X + 1) 5 v ds
  byt : ∀ i, i < ds.length → 0 ≤ elAt ds i ∧ elAt ds i ≤ 255
  ord : C < R ∧ R < X
theorem Dw.below {w W W' : World} {C R X : Nat} {a : Option Addr} {len cap : Nat} {l s : Int} {v : Value} {ds : List Int} (h : Dw w W C R X a len cap l s v ds) (k : Below W.heap.size W W') : Dw w W' C R X a len cap l s v ds :=
  ⟨h.dr.below k, h.res.below k, h.box.below k, h.own.below k, h.byt, h.ord⟩
theorem Dw.step {w W W' : World} {C R X : Nat} {a : Option Addr} {len cap : Nat} {l s : Int} {v : Value} {ds : List Int} (h : Dw w W C R X a len cap l s v ds) (d : Dr w C a len cap W') (g : W.grownBy W' (some C)) : Dw w W' C R X a len cap l s v ds := by
  have ho := h.ord
  exact ⟨d, h.res.apart g (fun e => by have := Option.some.inj e; omega), h.box.apart g (fun e => by have := Option.some.inj e; omega), h.own.far g (fun q hq e => by have := (h.own.lies q hq).1; have := Option.some.inj e; omega), h.byt, ho⟩
theorem Dw.put {w W : World} {C R X : Nat} {a : Option Addr} {len cap : Nat} {l s : Int} {v : Value} {ds : List Int} (h : Dw w W C R X a len cap l s v ds) (hin : ∀ b off, a = some ⟨b, off, none⟩ → b < w.heap.size) (i : Nat) (hi : i < 3) (u : Value) :
    Dr w C a len cap (W.setCell ⟨X, i, none⟩ u) ∧ Blk (W.setCell ⟨X, i, none⟩ u) R [.int .i64 0, .int .i64 0, .slice none 0 0] ∧ Blk (W.setCell ⟨X, i, none⟩ u) X ([.int .i64 l, .int .i64 s, v].set i u) ∧ OwnE 1 byC (W.setCell ⟨X, i, none⟩ u) (X + 1) 5 v ds := by
  have ho := h.ord
  have g : W.grownBy (W.setCell ⟨X, i, none⟩ u) (some X) := grown_set (grown_refl W (some X)) i u
  exact ⟨h.dr.own g (fun k hk => by cases hk; omega) hin, h.res.other (by show X ≠ R; omega) _, h.box.set i (by simpa using hi) u, h.own.set_other u (fun e => by have := (h.own.lies X e).1; omega)⟩
theorem Dw.setL {w W : World} {C R X : Nat} {a : Option Addr} {len cap : Nat} {l s : Int} {v : Value} {ds : List Int} (h : Dw w W C R X a len cap l s v ds) (hin : ∀ b off, a = some ⟨b, off, none⟩ → b < w.heap.size) (m : Int) : Dw w (W.setCell ⟨X, 0, none⟩ (.int .i64 m)) C R X a len cap m s v ds :=
  let p := h.put hin 0 (by omega) (.int .i64 m); ⟨p.1, p.2.1, p.2.2.1, p.2.2.2, h.byt, h.ord⟩
theorem Dw.setS {w W : World} {C R X : Nat} {a : Option Addr} {len cap : Nat} {l s : Int} {v : Value} {ds : List Int} (h : Dw w W C R X a len cap l s v ds) (hin : ∀ b off, a = some ⟨b, off, none⟩ → b < w.heap.size) (m : Int) : Dw w (W.setCell ⟨X, 1, none⟩ (.int .i64 m)) C R X a len cap l m v ds :=
  let p := h.put hin 1 (by omega) (.int .i64 m); ⟨p.1, p.2.1, p.2.2.1, p.2.2.2, h.byt, h.ord⟩
theorem row_put {w : World} {p : Option Addr} {n S o : Nat} {ds : List Int} (h : RowE 1 byC w p n ds) (hne : ∀ b off, p = some ⟨b, off, none⟩ → b ≠ S) (u : Value) : RowE 1 byC (w.setCell ⟨S, o, none⟩ u) p n ds := by
  refine ⟨h.len_eq, h.small, fun i hi => ?_⟩
  obtain ⟨b, off, e, hc⟩ := h.at_ i hi
  refine ⟨b, off, e, fun q hq => ?_⟩
  rw [← hc q hq]
  exact World.cell?_setCell_other w _ _ _ (by intro k; simp only [Addr.mk.injEq] at k; exact hne b off e k.1.symm)
theorem drByte {w : World} {C : Nat} {a : Option Addr} {len cap : Nat} (W : World) (h : Dr w C a len cap W) :
    Calls Try.prog 35 #[.pointer (some ⟨C, 0, none⟩)] W fun e w' => ∃ x : Int, e = .returned (.int .i64 x) ∧ (0 ≤ x ∧ x ≤ 255) ∧ Dr w C a len cap w' ∧ W.grownBy w' (some C) := by
  refine (l1Byte_any C a len cap W h.cur h.byt h.ne).mono ?_
  rintro e w' ⟨x, rfl, hx, hc, g⟩
  exact ⟨x, rfl, hx, h.step hc g, g⟩
theorem byt_app {ds : List Int} {x : Int} (h : ∀ i, i < ds.length → 0 ≤ elAt ds i ∧ elAt ds i ≤ 255) (hx : 0 ≤ x ∧ x ≤ 255) : ∀ i, i < (ds ++ [x]).length → 0 ≤ elAt (ds ++ [x]) i ∧ elAt (ds ++ [x]) i ≤ 255 := by
  intro i hi
  by_cases e : i < ds.length
  · rw [(elAt_app ds x).1 i e]; exact h i e
  · obtain rfl : i = ds.length := by simp at hi; omega
    rw [(elAt_app ds x).2]; exact hx
/-- One byte more, lying in a block: what append gives, and where. -/
theorem wpList_app_b1 {ops : Array Oper} {rest : List Oper} {o : Oper} {a : Act} {Q : Exit → Act → World → Prop} {w : World} (hgd : o.guard = none) (s xo : Operand) (ho : o.op = .call { callee := .builtin .append, args := #[s, xo], argTypes := #[22, 22] })
    {base n q : Nat} {v : Value} {ds : List Int} (x : Int) (hO : OwnE 1 byC w base 5 v ds) (hn : ds.length = n) (hs : a.eval s = v) (hx : a.eval xo = .slice (some ⟨q, 0, none⟩) 1 1) (hq : w.cell? ⟨q, 0, none⟩ = some (.int .u8 x)) (hb : base ≤ w.heap.size) (hsm : n ≤ 1000)
    (h : ∀ g cap w', OwnE 1 byC w' base 5 (.slice (some ⟨g, 0, none⟩) (n + 1) cap) (ds ++ [x]) → w.grownBy w' v.ownBlock → wpList Try.prog ops Q rest (a.put o.dst (.slice (some ⟨g, 0, none⟩) (n + 1) cap)) w') : wpList Try.prog ops Q (o :: rest) a w := by
  subst hn
  obtain ⟨vs, hown, hvx⟩ := hO.own
  obtain ⟨i0, hii, hz0, hz1, hz2⟩ := info_parts infoBy
  refine wpList_append_lies _ hgd s xo 22 ho base 5 i0 (.int .u8 0) 1 1 Try.underlying22 hii hz0 hz1 hz2 rfl (by decide) v ds.length vs hs hown ⟨q, 0, none⟩ 1 1 [.int .u8 x] hx rfl (fun j u hj => ?_) (fun u hu => by simp at hu; subst hu; rfl) (by decide) (by unfold maxLen; omega) (by omega) hb _ rfl ?_
  · have hj0 : j = 0 := by
      rcases Nat.eq_zero_or_pos j with k | k
      · exact k
      · rw [List.getElem?_eq_none (by simp; omega)] at hj; cases hj
    subst hj0
    simp at hj
    subst hj
    rw [addr_addR]
    simpa using hq
  · intro g cap w' h1 h2 _ _
    have hu : ∀ j, j < 1 → [Value.int .u8 x][j]? = some (byC x j) := fun j hj => by
      obtain rfl : j = 0 := by omega
      rfl
    exact h g cap w' (ownE_app h1 hown.1 hvx hu) h2
structure DwR (w : World) (C R X : Nat) (a : Option Addr) (len cap : Nat) (lk sq : Int) (v : Value) (n : Nat) (ds : List Int) (t0 t1 t2 t3 t4 t5 t6 t7 t8 : Bool) (v0 v1 v2 v3 v4 v5 v6 v7 : Value) (W : World) : Prop where
  dr : Dr w C a len cap W
  res : Blk W R [.int .i64 0, .int .i64 0, .slice none 0 0]
  box : Blk W X [.int .i64 lk, .int .i64 sq, (bif t8 then v6 else v)]
  own : t6 = false → OwnE 1 byC W (X + 1) 5 v ds
  e0 : t0 = true → v0 = .pointer (some ⟨X, 2, none⟩)
  e1 : t1 = true → v1 = v
  e2 : t2 = true → v2 = .pointer (some ⟨C, 0, none⟩)
  e3 : t3 = true → ∃ x : Int, (0 ≤ x ∧ x ≤ 255) ∧ v3 = .int .i64 x
  e4 : t4 = true → ∃ x : Int, (0 ≤ x ∧ x ≤ 255) ∧ v4 = .int .u8 x
  e5 : t5 = true → t6 = false → ∃ (q : Nat) (x : Int), (0 ≤ x ∧ x ≤ 255) ∧ v5 = .slice (some ⟨q, 0, none⟩) 1 1 ∧ Blk W q [.int .u8 x] ∧ X < q ∧ v.ownBlock ≠ some q
  e6 : t6 = true → ∃ (g c : Nat) (x : Int), (0 ≤ x ∧ x ≤ 255) ∧ v6 = .slice (some ⟨g, 0, none⟩) (n + 1) c ∧ OwnE 1 byC W (X + 1) 5 v6 (ds ++ [x])
  e7 : t7 = true → v7 = .pointer (some ⟨X, 2, none⟩)
  n8 : t8 = true → t6 = true
  n1 : t6 = true → t1 = true
  n5 : t6 = true → t5 = true
  n3 : t5 = true → t3 = true
  n4 : t4 = true → t3 = true
def DwRJ (w : World) (C R X : Nat) (a : Option Addr) (len cap : Nat) (lk sq : Int) (v : Value) (n : Nat) (ds : List Int) (A0 : Act) (l : Nat → Bool) (b : Act) (V : World) : Prop := ∃ (v0 v1 v2 v3 v4 v5 v6 v7 : Value), b = ((((((((A0.put (some 23) v0).put (some 24) v1).put (some 25) v2).put (some 26) v3).put (some 27) v4).put (some 28) v5).put (some 29) v6).put (some 30) v7) ∧ DwR w C R X a len cap lk sq v n ds (l 0) (l 1) (l 2) (l 3) (l 4) (l 5) (l 6) (l 7) (l 8) v0 v1 v2 v3 v4 v5 v6 v7 V
theorem DwRJ.mk {w : World} {C R X : Nat} {a : Option Addr} {len cap : Nat} {lk sq : Int} {v : Value} {n : Nat} {ds : List Int} {A0 : Act} {l : Nat → Bool} {b : Act} {V : World} {v0 v1 v2 v3 v4 v5 v6 v7 : Value} (K : DwR w C R X a len cap lk sq v n ds (l 0) (l 1) (l 2) (l 3) (l 4) (l 5) (l 6) (l 7) (l 8) v0 v1 v2 v3 v4 v5 v6 v7 V) (h : b = ((((((((A0.put (some 23) v0).put (some 24) v1).put (some 25) v2).put (some 26) v3).put (some 27) v4).put (some 28) v5).put (some 29) v6).put (some 30) v7)) : DwRJ w C R X a len cap lk sq v n ds A0 l b V := ⟨v0, v1, v2, v3, v4, v5, v6, v7, h, K⟩



end Go.Proofs.Yticdccdkjepifaa
