/-
  Lists of loads: each a text, four numbers and bytes in memory of their own; one load more. No condition.
  The law's size, copy and comparison of a list of loads. The copy at lists that its size allows; nothing that was there is written.
  The law's size and comparison of a list of loads. At every list; nothing that was there is written.
-/
import Derived.Test.YtemodlgmjgdjpaaGreatDoorMOpenBy
import Derived.Test.YtemodlgmjgdjpaaGreatDoorMOnly
import Derived.Test.YtemodlgmjgdjpaaGreatDoorMKeeps
import Derived.Test.YtemodlgmjgdjpaaGreatDoorMRowBy
import Derived.Test.YtemodlgmjgdjpaaGreatDoorMBase
import Derived.Laws.MakeOwn

namespace Go.Proofs.YtemodlgmjgdjpaaGreatDoor
open Go Go.RowKit

/-- What a load says. -/
def lxW (x : Lx) : Lc := ⟨x.p, x.nb, x.le, x.mo, x.ne, x.d.zs⟩
def lxV (x : Lx) : List Value := [.string x.p, .int .i64 x.nb, .int .i64 x.le, .int .i64 x.mo, .int .i64 x.ne, .slice x.d.a x.d.n x.d.c]
theorem lxV_at (x : Lx) : ∀ q, q < 6 → (lxV x)[q]? = some (lxC x q)
  | 0, _ => rfl
  | 1, _ => rfl
  | 2, _ => rfl
  | 3, _ => rfl
  | 4, _ => rfl
  | 5, _ => rfl
theorem lxV_one (x : Lx) : ∀ u ∈ lxV x, u.oneCell' = true := by
  intro u hu
  simp [lxV] at hu
  rcases hu with rfl | rfl | rfl | rfl | rfl | rfl <;> rfl
theorem infoLx : (Tryz.prog.info? 32).map (fun i => (i.zero, i.size, i.bytes)) = some (some (.agg #[.string ⟨#[]⟩, .int .i64 0, .int .i64 0, .int .i64 0, .int .i64 0, .slice none 0 0]), 6, 72) := by kernel_rfl
theorem elAt_appL {α : Type} [Inhabited α] {Z : List α} {x : α} {i : Nat} (h : i < Z.length) : elAt (Z ++ [x]) i = elAt Z i := (elAt_app Z x).1 i h
theorem elAt_appR {α : Type} [Inhabited α] {Z : List α} {x : α} : elAt (Z ++ [x]) Z.length = x := (elAt_app Z x).2

/-- A list of loads that a call has made: the list, and the bytes of each load, each in memory of its own. -/
structure OwnLd (w : World) (base : Nat) (v : Value) (ws : List Lx) : Prop where
  out : OwnE 6 lxC w base 32 v ws
  dat : ∀ i, i < ws.length → OwnE 1 byC w base 5 (slV (elAt ws i).d) (elAt ws i).d.zs
  apt : ∀ i, i < ws.length → ∀ g, (slV (elAt ws i).d).ownBlock = some g → v.ownBlock ≠ some g
  par : ∀ i j, i < j → j < ws.length → ∀ g, (slV (elAt ws i).d).ownBlock = some g → (slV (elAt ws j).d).ownBlock ≠ some g
theorem OwnLd.below {w w' : World} {base : Nat} {v : Value} {ws : List Lx} (h : OwnLd w base v ws) (k : Below w.heap.size w w') : OwnLd w' base v ws :=
  ⟨h.out.below k, fun i hi => (h.dat i hi).below k, h.apt, h.par⟩
theorem OwnLd.mono {w : World} {base base' : Nat} {v : Value} {ws : List Lx} (h : OwnLd w base v ws) (hb : base' ≤ base) : OwnLd w base' v ws :=
  ⟨h.out.mono hb, fun i hi => (h.dat i hi).mono hb, h.apt, h.par⟩
theorem OwnLd.set_low {w : World} {base S o : Nat} {v : Value} {ws : List Lx} (h : OwnLd w base v ws) (hS : S < base) (u : Value) : OwnLd (w.setCell ⟨S, o, none⟩ u) base v ws :=
  ⟨h.out.set_other u (fun e => by have := (h.out.lies S e).1; omega), fun i hi => (h.dat i hi).set_other u (fun e => by have := ((h.dat i hi).lies S e).1; omega), h.apt, h.par⟩
/-- Its blocks lie from b on, below u. -/
def LxLies (b u : Nat) (v : Value) (ws : List Lx) : Prop := (∀ g, v.ownBlock = some g → b ≤ g ∧ g < u) ∧ ∀ i, i < ws.length → ∀ g, (slV (elAt ws i).d).ownBlock = some g → b ≤ g ∧ g < u
theorem OwnLd.lies {w : World} {base : Nat} {v : Value} {ws : List Lx} (h : OwnLd w base v ws) : LxLies base w.heap.size v ws := ⟨h.out.lies, fun i hi => (h.dat i hi).lies⟩
theorem OwnLd.only {w w' : World} {base lo hi b u : Nat} {v : Value} {ws : List Lx} (h : OwnLd w base v ws) (k : Only lo hi w w') (hl : LxLies b u v ws) (hs : u ≤ lo ∨ hi ≤ b) : OwnLd w' base v ws :=
  ⟨h.out.only k (fun g hg => by have := hl.1 g hg; omega), fun i hi => (h.dat i hi).only k (fun g hg => by have := hl.2 i hi g hg; omega), h.apt, h.par⟩
theorem ownLd_none {w : World} {base : Nat} (hb : base ≤ w.heap.size) : OwnLd (w.alloc (Obj.cells #[] 32)) base (.slice (some ⟨w.heap.size, 0, none⟩) 0 0) [] :=
  ⟨(ownE_none (w := w) (Nat.le_refl _)).mono hb, fun i hi => by simp at hi, fun i hi => by simp at hi, fun i j _ hj => by simp at hj⟩
theorem OwnLd.push {w w9 : World} {base g n c : Nat} {v : Value} {ws : List Lx} {x : Lx} (h : OwnLd w base v ws) (o : OwnE 6 lxC w9 base 32 (.slice (some ⟨g, 0, none⟩) n c) (ws ++ [x])) (gr : w.grownBy w9 v.ownBlock) (hg : v.ownBlock = some g ∨ w.heap.size ≤ g)
    (hd : OwnE 1 byC w base 5 (slV x.d) x.d.zs) (hv : ∀ q, (slV x.d).ownBlock = some q → v.ownBlock ≠ some q) (hp : ∀ i, i < ws.length → ∀ q, (slV (elAt ws i).d).ownBlock = some q → (slV x.d).ownBlock ≠ some q) : OwnLd w9 base (.slice (some ⟨g, 0, none⟩) n c) (ws ++ [x]) := by
  have dt : ∀ i, i < (ws ++ [x]).length → OwnE 1 byC w base 5 (slV (elAt (ws ++ [x]) i).d) (elAt (ws ++ [x]) i).d.zs ∧ ∀ q, (slV (elAt (ws ++ [x]) i).d).ownBlock = some q → v.ownBlock ≠ some q := by
    intro i hi
    by_cases e : i < ws.length
    · rw [elAt_appL e]; exact ⟨h.dat i e, h.apt i e⟩
    · obtain rfl : i = ws.length := by simp at hi; omega
      rw [elAt_appR]; exact ⟨hd, hv⟩
  refine ⟨o, fun i hi => (dt i hi).1.far gr (fun q hq e => (dt i hi).2 q hq e.symm), fun i hi q hq e => ?_, fun i j hij hj q hq => ?_⟩
  · have e : g = q := Option.some.inj e
    rcases hg with k | k
    · exact (dt i hi).2 q hq (by rw [k, e])
    · have := ((dt i hi).1.lies q hq).2; omega
  · have hi : i < ws.length := by simp at hj; omega
    rw [elAt_appL hi] at hq
    by_cases e : j < ws.length
    · rw [elAt_appL e]; exact h.par i j hij e q hq
    · obtain rfl : j = ws.length := by simp at hj; omega
      rw [elAt_appR]; exact hp i hi q hq
/-- One load more, its six cells lying in a block: what append gives, and where. -/
theorem wpList_app_lx {ops : Array Oper} {rest : List Oper} {o : Oper} {a : Act} {Q : Exit → Act → World → Prop} {w : World} (hgd : o.guard = none) (s xo : Operand) (ho : o.op = .call { callee := .builtin .append, args := #[s, xo], argTypes := #[24, 24] })
    {base n q : Nat} {v : Value} {ws : List Lx} (x : Lx) (hO : OwnE 6 lxC w base 32 v ws) (hn : ws.length = n) (hs : a.eval s = v) (hx : a.eval xo = .slice (some ⟨q, 0, none⟩) 1 1) (hq : ∀ j, j < 6 → w.cell? ⟨q, j, none⟩ = some (lxC x j)) (hb : base ≤ w.heap.size) (hsm : n ≤ 1000)
    (h : ∀ g cap w', OwnE 6 lxC w' base 32 (.slice (some ⟨g, 0, none⟩) (n + 1) cap) (ws ++ [x]) → w.grownBy w' v.ownBlock → (v.ownBlock = some g ∨ w.heap.size ≤ g) → wpList Tryz.prog ops Q rest (a.put o.dst (.slice (some ⟨g, 0, none⟩) (n + 1) cap)) w') : wpList Tryz.prog ops Q (o :: rest) a w := by
  subst hn
  obtain ⟨vs, hown, hvx⟩ := hO.own
  obtain ⟨i0, hii, hz0, hz1, hz2⟩ := info_parts infoLx
  refine wpList_append_lies _ hgd s xo 24 ho base 32 i0 (.agg #[.string ⟨#[]⟩, .int .i64 0, .int .i64 0, .int .i64 0, .int .i64 0, .slice none 0 0]) 6 72 Tryz.underlying24 hii hz0 hz1 hz2 rfl (by decide) v ws.length vs hs hown ⟨q, 0, none⟩ 1 1 (lxV x) hx rfl (fun j u hj => ?_) (lxV_one x) (by decide) (by unfold maxLen; omega) (by omega) hb _ rfl ?_
  · have hj6 : j < 6 := by
      rcases Nat.lt_or_ge j 6 with k | k
      · exact k
      · rw [List.getElem?_eq_none (by simpa [lxV] using k)] at hj; cases hj
    rw [lxV_at x j hj6] at hj
    have := hq j hj6
    rw [Option.some.inj hj] at this
    rw [addr_addR]
    simpa using this
  · intro g cap w' h1 h2 h3 _
    refine h g cap w' (ownE_app h1 hown.1 hvx (lxV_at x)) h2 ?_
    rcases h3 with h3 | h3
    · exact .inl h3
    · right; omega
/-- What two lists of loads read as. -/
structure LsIn (w : World) (a : Option Addr) (len : Nat) (ws : List Lx) : Prop where
  row : RowE 6 lxC w a len ws
  dat : ∀ i, i < len → RowE 1 byC w (elAt ws i).d.a (elAt ws i).d.n (elAt ws i).d.zs
theorem OwnLd.read {w : World} {base : Nat} {a : Option Addr} {len c : Nat} {ws : List Lx} (h : OwnLd w base (.slice a len c) ws) : LsIn w a len ws :=
  ⟨h.out.row, fun i hi => (h.dat i (by have := h.out.row.len_eq; omega)).row⟩
theorem LsIn.below {w w' : World} {a : Option Addr} {len : Nat} {ws : List Lx} (h : LsIn w a len ws) (k : Below w.heap.size w w') : LsIn w' a len ws := ⟨h.row.below k, fun i hi => (h.dat i hi).below k⟩
theorem lx_same {ws us : List Lx} (h : ws.map lxW = us.map lxW) {i : Nat} (hi : i < ws.length) : (elAt ws i).p = (elAt us i).p ∧ (elAt ws i).nb = (elAt us i).nb ∧ (elAt ws i).le = (elAt us i).le ∧ (elAt ws i).mo = (elAt us i).mo ∧ (elAt ws i).ne = (elAt us i).ne ∧ (elAt ws i).d.zs = (elAt us i).d.zs := by
  have hl : ws.length = us.length := by simpa using congrArg List.length h
  have e := congrArg (fun l => l[i]?) h
  simp only [List.getElem?_map, List.getElem?_eq_getElem hi, List.getElem?_eq_getElem (hl ▸ hi), Option.map_some, Option.some.injEq] at e
  have e1 : elAt ws i = ws[i] := by simp [elAt, hi]
  have e2 : elAt us i = us[i]'(hl ▸ hi) := by simp [elAt, hl ▸ hi]
  rw [e1, e2]
  simp only [lxW, Lc.mk.injEq] at e
  exact e
theorem RowE.six {w : World} {a : Option Addr} {len : Nat} {ws : List Lx} (h : RowE 6 lxC w a len ws) : (len = 0 ∧ ws = []) ∨ ∃ b off, a = some ⟨b, off, none⟩ ∧ 0 < len ∧ ∀ i, i < len → w.cell? ⟨b, off + i * 6, none⟩ = some (.string (elAt ws i).p) ∧ w.cell? ⟨b, off + i * 6 + 1, none⟩ = some (.int .i64 (elAt ws i).nb) ∧ w.cell? ⟨b, off + i * 6 + 2, none⟩ = some (.int .i64 (elAt ws i).le) ∧ w.cell? ⟨b, off + i * 6 + 3, none⟩ = some (.int .i64 (elAt ws i).mo) ∧ w.cell? ⟨b, off + i * 6 + 4, none⟩ = some (.int .i64 (elAt ws i).ne) ∧ w.cell? ⟨b, off + i * 6 + 5, none⟩ = some (.slice (elAt ws i).d.a (elAt ws i).d.n (elAt ws i).d.c) := by
  rcases h.open_ with k | ⟨b, off, ha, h0, hc⟩
  · exact .inl k
  · exact .inr ⟨b, off, ha, h0, fun i hi => ⟨hc i hi 0 (by omega), hc i hi 1 (by omega), hc i hi 2 (by omega), hc i hi 3 (by omega), hc i hi 4 (by omega), hc i hi 5 (by omega)⟩⟩

end Go.Proofs.YtemodlgmjgdjpaaGreatDoor

namespace Go.Proofs.YtemodlgmjgdjpaaGreatDoor
open Go Go.RowKit

/-- What a list of loads reads as, each text with its size. -/
structure LsAll (w : World) (a : Option Addr) (len : Nat) (ls : List Lx) : Prop where
  row : RowE 6 lxC w a len ls
  el : ∀ i, i < len → LxIn w (elAt ls i)
theorem LsAll.below {w w' : World} {a : Option Addr} {len : Nat} {ls : List Lx} (h : LsAll w a len ls) (k : Below w.heap.size w w') : LsAll w' a len ls := ⟨h.row.below k, fun i hi => ⟨(h.el i hi).sl.below k, (h.el i hi).sz⟩⟩
theorem LsAll.read {w : World} {a : Option Addr} {len : Nat} {ls : List Lx} (h : LsAll w a len ls) : LsIn w a len ls := ⟨h.row, fun i hi => (h.el i hi).sl.row⟩

/-- One load put at a place, its bytes in new memory. -/
theorem OwnLd.put {w w2 : World} {base g n c j : Nat} {us : List Lx} {x : Lx} (h : OwnLd w base (.slice (some ⟨g, 0, none⟩) n c) us) (hn : us.length = n) (hj : j < n) (b : Below w.heap.size w w2) (hbs : base ≤ w.heap.size) (hd : OwnE 1 byC w2 w.heap.size 5 (slV x.d) x.d.zs) :
    OwnLd ((((((w2.setCell ⟨g, j * 6, none⟩ (.string x.p)).setCell ⟨g, j * 6 + 1, none⟩ (.int .i64 x.nb)).setCell ⟨g, j * 6 + 2, none⟩ (.int .i64 x.le)).setCell ⟨g, j * 6 + 3, none⟩ (.int .i64 x.mo)).setCell ⟨g, j * 6 + 4, none⟩ (.int .i64 x.ne)).setCell ⟨g, j * 6 + 5, none⟩ (.slice x.d.a x.d.n x.d.c)) base (.slice (some ⟨g, 0, none⟩) n c) (us.set j x) := by
  have o0 := (h.out.below b).setOne hn j hj 0 (by omega) (.string x.p) ⟨x.p, (elAt us j).nb, (elAt us j).le, (elAt us j).mo, (elAt us j).ne, (elAt us j).d⟩ (fun p hp => by match p, hp with | 0, _ => rfl | 1, _ => rfl | 2, _ => rfl | 3, _ => rfl | 4, _ => rfl | 5, _ => rfl)
  have o1 := o0.setMore hn hj 1 (by omega) (.int .i64 x.nb) ⟨x.p, x.nb, (elAt us j).le, (elAt us j).mo, (elAt us j).ne, (elAt us j).d⟩ (fun p hp => by match p, hp with | 0, _ => rfl | 1, _ => rfl | 2, _ => rfl | 3, _ => rfl | 4, _ => rfl | 5, _ => rfl)
  have o2 := o1.setMore hn hj 2 (by omega) (.int .i64 x.le) ⟨x.p, x.nb, x.le, (elAt us j).mo, (elAt us j).ne, (elAt us j).d⟩ (fun p hp => by match p, hp with | 0, _ => rfl | 1, _ => rfl | 2, _ => rfl | 3, _ => rfl | 4, _ => rfl | 5, _ => rfl)
  have o3 := o2.setMore hn hj 3 (by omega) (.int .i64 x.mo) ⟨x.p, x.nb, x.le, x.mo, (elAt us j).ne, (elAt us j).d⟩ (fun p hp => by match p, hp with | 0, _ => rfl | 1, _ => rfl | 2, _ => rfl | 3, _ => rfl | 4, _ => rfl | 5, _ => rfl)
  have o4 := o3.setMore hn hj 4 (by omega) (.int .i64 x.ne) ⟨x.p, x.nb, x.le, x.mo, x.ne, (elAt us j).d⟩ (fun p hp => by match p, hp with | 0, _ => rfl | 1, _ => rfl | 2, _ => rfl | 3, _ => rfl | 4, _ => rfl | 5, _ => rfl)
  have o5 := o4.setMore hn hj 5 (by omega) (.slice x.d.a x.d.n x.d.c) ⟨x.p, x.nb, x.le, x.mo, x.ne, x.d⟩ (fun p hp => by match p, hp with | 0, _ => rfl | 1, _ => rfl | 2, _ => rfl | 3, _ => rfl | 4, _ => rfl | 5, _ => rfl)
  have hgl := h.out.lies g rfl
  have ed : ∀ i, elAt (us.set j x) i = if i = j then x else elAt us i := fun i => elAt_set _ _ _ _ (by omega)
  have D : ∀ i, i < us.length → OwnE 1 byC w2 base 5 (slV (elAt (us.set j x) i).d) (elAt (us.set j x) i).d.zs ∧ ∀ q, (slV (elAt (us.set j x) i).d).ownBlock = some q → q ≠ g := by
    intro i hi
    rw [ed]
    by_cases e : i = j
    · rw [if_pos e]
      exact ⟨hd.mono hbs, fun q hq => by have := (hd.lies q hq).1; omega⟩
    · rw [if_neg e]
      exact ⟨(h.dat i hi).below b, fun q hq e2 => h.apt i hi q hq (by rw [e2]; rfl)⟩
  refine ⟨o5, fun i hi => ?_, fun i hi q hq e => ?_, fun i i2 hij hi2 q hq e => ?_⟩
  · rw [List.length_set] at hi
    have hne : (slV (elAt (us.set j x) i).d).ownBlock ≠ some g := fun e => (D i hi).2 g e rfl
    exact ((((((D i hi).1.set_other _ hne).set_other _ hne).set_other _ hne).set_other _ hne).set_other _ hne).set_other _ hne
  · rw [List.length_set] at hi
    exact (D i hi).2 q hq (Option.some.inj e).symm
  · rw [List.length_set] at hi2
    rw [ed] at hq e
    by_cases e1 : i = j
    · rw [if_pos e1] at hq
      rw [if_neg (by omega)] at e
      have := (hd.lies q hq).1
      have := ((h.dat i2 hi2).lies q e).2
      omega
    · rw [if_neg e1] at hq
      by_cases e2 : i2 = j
      · rw [if_pos e2] at e
        have := (hd.lies q e).1
        have := ((h.dat i (by omega)).lies q hq).2
        omega
      · rw [if_neg e2] at e
        exact h.par i i2 hij hi2 q hq e

theorem madeLd (n i q : Nat) (hi : i < n) (hq : q < 6) : (madeCells (Value.agg #[.string ⟨#[]⟩, .int .i64 0, .int .i64 0, .int .i64 0, .int .i64 0, .slice none 0 0]).cells (n * 6)).toList[i * 6 + q]? = some (lxC default q) := by
  have e : (Value.agg #[.string ⟨#[]⟩, .int .i64 0, .int .i64 0, .int .i64 0, .int .i64 0, .slice none 0 0]).cells = #[.string ⟨#[]⟩, .int .i64 0, .int .i64 0, .int .i64 0, .int .i64 0, .slice none 0 0] := rfl
  have hk : i * 6 + q < n * 6 := by omega
  have hm : (i * 6 + q) % 6 = q := by omega
  rw [e]
  simp only [madeCells, Array.toList_map, Array.toList_range, List.getElem?_map, List.getElem?_range, hk]
  match q, hq with
  | 0, _ => simp; rfl
  | 1, _ => simp; rfl
  | 2, _ => simp; rfl
  | 3, _ => simp; rfl
  | 4, _ => simp; rfl
  | 5, _ => simp; rfl
theorem ownLd_made {w : World} {base : Nat} {v : Value} {n : Nat} (h : w.ownsRow base 32 6 v n (madeCells (Value.agg #[.string ⟨#[]⟩, .int .i64 0, .int .i64 0, .int .i64 0, .int .i64 0, .slice none 0 0]).cells (n * 6)).toList) : OwnLd w base v (List.replicate n default) := by
  have hd : ∀ i, elAt (List.replicate n (default : Lx)) i = default := fun i => by
    unfold elAt
    by_cases hi : i < n <;> simp [hi]
  refine ⟨⟨_, by simpa using h, fun i hi q hq => ?_⟩, fun i hi => ?_, fun i hi q hq => ?_, fun i i2 _ _ q hq => ?_⟩
  · rw [hd]
    exact madeLd n i q (by simpa using hi) hq
  · rw [hd]; exact ownE_nil w base _
  · rw [hd] at hq; simp [slV, default, Value.ownBlock] at hq
  · rw [hd] at hq; simp [slV, default, Value.ownBlock] at hq

/-- The copy under way. -/
structure CpLd (w wr : World) (ls : List Lx) (us : List Lx) (k : Nat) : Prop where
  own : OwnLd wr w.heap.size (.slice (some ⟨w.heap.size, 0, none⟩) ls.length ls.length) us
  len : us.length = ls.length
  same : ∀ i, i < k → lxW (elAt us i) = lxW (elAt ls i)
  bel : Below w.heap.size w wr
set_option maxRecDepth 20000 in
set_option maxHeartbeats 4000000 in
theorem toLoad18S_own (ad : Option Addr) (len cap : Nat) (ls : List Lx) (w : World) (hr : LsAll w ad len ls) (hlen : len ≤ 1048576) (hall : ∀ i, i < len → (elAt ls i).d.n ≤ 1048576) :
    Calls Tryz.prog 27 #[.slice ad len cap] w fun e w' => e = .returned (.slice (some ⟨w.heap.size, 0, none⟩) len len) ∧ (∃ us, us.map lxW = ls.map lxW ∧ OwnLd w' w.heap.size (.slice (some ⟨w.heap.size, 0, none⟩) len len) us) ∧ Below w.heap.size w w' := by
  have hz := hr.row.len_eq
  have HO := hide hr.row.six
  have HE := hide hr.el
  have HA := hide hall
  clear hr hall
  subst hz
  obtain ⟨i0, hi, hz0, hz1, hz2⟩ := info_parts infoLx
  go_enter Tryz.func27, Tryz.ntmps27
  go_wp2_with (at_make; refine wpList_make_full _ rfl (.tmp 6) (.tmp 6) 24 rfl w.heap.size 32 i0 (.agg #[.string ⟨#[]⟩, .int .i64 0, .int .i64 0, .int .i64 0, .int .i64 0, .slice none 0 0]) 6 Tryz.underlying24 hi hz0 hz1 .i64 .i64 _ _ ls.length rfl rfl rfl rfl (by rw [hz2]; omega) (by unfold maxLen; omega) (Nat.le_refl _) ?_; intro w1 hown hgrow)
  have HC0 : ∃ us, Hid (CpLd w w1 ls us 0) := ⟨_, hide ⟨ownLd_made hown, by simp, fun i hi => by omega, (Below.refl _ _).grown hgrow (Nat.le_refl _) (fun k hk => by cases hk)⟩⟩
  clear hown hgrow hi hz0 hz1 hz2
  go_loopw [4] (fun i wr => ∃ k : Nat, k ≤ ls.length ∧ i = .int .i64 k ∧ ∃ us, Hid (CpLd w wr ls us k)) (fun i _ => ls.length - (intOf i).toNat)
  case atStart => exact ⟨0, Nat.zero_le _, rfl, HC0⟩
  case round =>
    clear HC0
    obtain ⟨k, hk, rfl, us, CP⟩ := hrel
    by_cases hlt : k < ls.length
    · rcases (unhide HO) with ⟨h0, _⟩ | ⟨bb, off, rfl, _, hc⟩
      · omega
      obtain ⟨x, hx⟩ : ∃ x, elAt ls k = x := ⟨_, rfl⟩
      have q0 := hc k hlt
      rw [hx] at q0
      have cl := fun {p : Addr} {v : Value} (h : w.cell? p = some v) => ((unhide CP).bel.cell (p := p) (block_lt_of_cell h)).trans h
      have s0 := cl q0.1
      have s1 := cl q0.2.1
      have s2 := cl q0.2.2.1
      have s3 := cl q0.2.2.2.1
      have s4 := cl q0.2.2.2.2.1
      have s5 := cl q0.2.2.2.2.2
      have he := (unhide HE) k hlt
      have hl20 := (unhide HA) k hlt
      rw [hx] at he hl20
      have HR : Hid (LdIn wr x.d.a x.d.n x.d.zs) := hide ⟨he.sl.row.below (unhide CP).bel⟩
      have hi1 : (k : Int) < (ls.length : Int) := by omega
      have HX := hide hx
      clear hc q0 cl he hx
      go_wp2_with fail
      refine (toLoad18_own x.p x.nb x.le x.mo x.ne _ _ _ x.d.zs _ (unhide HR) hl20).mono ?_
      rintro e w2 ⟨⟨g1, rfl, ow⟩, hb2⟩
      have hcp := unhide CP
      obtain ⟨y, hy⟩ : ∃ y : Lx, y = ⟨x.p, x.nb, x.le, x.mo, x.ne, ⟨some ⟨g1, 0, none⟩, x.d.n, x.d.n, x.d.zs⟩⟩ := ⟨_, rfl⟩
      have od := hcp.own.out.below hb2
      have hp := hcp.own.put (x := y) hcp.len hlt hb2 hcp.bel.size (by rw [hy]; exact ow.o1)
      have f := fun q hq => od.here hcp.len k hlt q hq
      have y0 : w2.cell? ⟨w.heap.size, k * 6, none⟩ = some (lxC (elAt us k) 0) := (f 0 (by omega)).1
      have y1 : w2.cell? ⟨w.heap.size, k * 6 + 1, none⟩ = some (lxC (elAt us k) 1) := (f 1 (by omega)).1
      have y2 : w2.cell? ⟨w.heap.size, k * 6 + 2, none⟩ = some (lxC (elAt us k) 2) := (f 2 (by omega)).1
      have y3 : w2.cell? ⟨w.heap.size, k * 6 + 3, none⟩ = some (lxC (elAt us k) 3) := (f 3 (by omega)).1
      have y4 : w2.cell? ⟨w.heap.size, k * 6 + 4, none⟩ = some (lxC (elAt us k) 4) := (f 4 (by omega)).1
      have y5 : w2.cell? ⟨w.heap.size, k * 6 + 5, none⟩ = some (lxC (elAt us k) 5) := (f 5 (by omega)).1
      have z0 : w2.frozen? ⟨w.heap.size, k * 6, none⟩ = false := (f 0 (by omega)).2
      have z1 : w2.frozen? ⟨w.heap.size, k * 6 + 1, none⟩ = false := (f 1 (by omega)).2
      have z2 : w2.frozen? ⟨w.heap.size, k * 6 + 2, none⟩ = false := (f 2 (by omega)).2
      have z3 : w2.frozen? ⟨w.heap.size, k * 6 + 3, none⟩ = false := (f 3 (by omega)).2
      have z4 : w2.frozen? ⟨w.heap.size, k * 6 + 4, none⟩ = false := (f 4 (by omega)).2
      have z5 : w2.frozen? ⟨w.heap.size, k * 6 + 5, none⟩ = false := (f 5 (by omega)).2
      have bb2 : Below w.heap.size w w2 := hcp.bel.trans (hb2.mono hcp.bel.size)
      have NX : Hid (CpLd w ((((((w2.setCell ⟨w.heap.size, k * 6, none⟩ (.string x.p)).setCell ⟨w.heap.size, k * 6 + 1, none⟩ (.int .i64 x.nb)).setCell ⟨w.heap.size, k * 6 + 2, none⟩ (.int .i64 x.le)).setCell ⟨w.heap.size, k * 6 + 3, none⟩ (.int .i64 x.mo)).setCell ⟨w.heap.size, k * 6 + 4, none⟩ (.int .i64 x.ne)).setCell ⟨w.heap.size, k * 6 + 5, none⟩ (.slice (some ⟨g1, 0, none⟩) x.d.n x.d.n)) ls (us.set k ⟨x.p, x.nb, x.le, x.mo, x.ne, ⟨some ⟨g1, 0, none⟩, x.d.n, x.d.n, x.d.zs⟩⟩) (k + 1)) := hide ⟨by rw [hy] at hp; exact hp, by rw [List.length_set]; exact hcp.len, fun i hi => by
        rw [elAt_set _ _ _ _ (by have := hcp.len; omega)]
        by_cases e : i = k
        · rw [if_pos e, e, unhide HX]; rfl
        · rw [if_neg e]; exact hcp.same i (by omega), by
        repeat (refine Below.setCell ?_ (by simp) _)
        exact bb2⟩
      clear hb2 ow hcp od hp f bb2 hy CP
      go_wp2_with fail
      go_roundw
      case rel => exact ⟨k + 1, by omega, by go_num, _, NX⟩
      case measure => simp [intOf]; omega
    · have hkk : k = ls.length := by omega
      have HF : Hid ((∃ us, us.map lxW = ls.map lxW ∧ OwnLd wr w.heap.size (.slice (some ⟨w.heap.size, 0, none⟩) ls.length ls.length) us) ∧ Below w.heap.size w wr) := hide ⟨⟨us, by
        have hcp := unhide CP
        refine List.ext_getElem (by simp [hcp.len]) fun i h1 h2 => ?_
        have h1' : i < us.length := by simpa using h1
        have h2' : i < ls.length := by simpa using h2
        have := hcp.same i (by omega)
        have e1 : elAt us i = us[i] := by simp [elAt, h1']
        have e2 : elAt ls i = ls[i] := by simp [elAt, h2']
        rw [e1, e2] at this
        simpa using this, (unhide CP).own⟩, (unhide CP).bel⟩
      have hi1 : ¬ (k : Int) < (ls.length : Int) := by omega
      clear hkk CP
      go_wp2_with fail
      go_ret
      exact ⟨rfl, (unhide HF).1, (unhide HF).2⟩

end Go.Proofs.YtemodlgmjgdjpaaGreatDoor

namespace Go.Proofs.YtemodlgmjgdjpaaGreatDoor
open Go Go.RowKit

set_option maxRecDepth 20000 in
set_option maxHeartbeats 4000000 in
theorem szLoad18S_any (ad : Option Addr) (len cap : Nat) (ls : List Lx) (left : Int) (w : World) (hr : LsAll w ad len ls) (hl0 : 0 ≤ left) (hl1 : left ≤ 1048576) :
    Calls Tryz.prog 25 #[.slice ad len cap, .int .i64 left] w fun e w' => (∃ r : Int, e = .returned (.int .i64 r) ∧ (r < 0 ∨ (0 ≤ r ∧ r ≤ left ∧ len ≤ 1048576 ∧ ∀ i, i < len → (elAt ls i).p.size ≤ 1048576 ∧ (elAt ls i).d.n ≤ 1048576))) ∧ Below w.heap.size w w' := by
  have hs := hr.row.small
  have hz := hr.row.len_eq
  have HO := hide hr.row.six
  have HE := hide hr.el
  clear hr
  subst hz
  by_cases q0 : (ls.length : Int) ≤ left
  · have n0 : ¬ left - (ls.length : Int) < 0 := by omega
    go_enter Tryz.func25, Tryz.ntmps25
    go_wp2_with fail
    go_loopw [1, 5] (fun l i wr => ∃ (k : Nat) (L : Int), l = .int .i64 L ∧ i = .int .i64 k ∧ k ≤ ls.length ∧ 0 ≤ L ∧ L ≤ left ∧ Hid (∀ i, i < k → (elAt ls i).p.size ≤ 1048576 ∧ (elAt ls i).d.n ≤ 1048576) ∧ Hid (Below w.heap.size w wr)) (fun _ i _ => ls.length - (intOf i).toNat)
    case atStart => exact ⟨0, _, rfl, rfl, Nat.zero_le _, by omega, by omega, hide (fun i hi => by omega), hide (Below.refl _ _)⟩
    case round =>
      clear n0
      obtain ⟨k, L, rfl, rfl, hk, hL0, hL1, AL, BW⟩ := hrel
      by_cases hlt : k < ls.length
      · rcases (unhide HO) with ⟨h0, _⟩ | ⟨bb, off, rfl, _, hc⟩
        · omega
        obtain ⟨x, hx⟩ : ∃ x, elAt ls k = x := ⟨_, rfl⟩
        have c0 := hc k hlt
        have he := (unhide HE) k hlt
        rw [hx] at c0 he
        have cl := fun {p : Addr} {v : Value} (h : w.cell? p = some v) => ((unhide BW).cell (p := p) (block_lt_of_cell h)).trans h
        have s0 := cl c0.1
        have s1 := cl c0.2.1
        have s2 := cl c0.2.2.1
        have s3 := cl c0.2.2.2.1
        have s4 := cl c0.2.2.2.2.1
        have s5 := cl c0.2.2.2.2.2
        have hps := he.sz
        have hns := he.sl.row.small
        have hi1 : (k : Int) < (ls.length : Int) := by omega
        have hi0 : (0 : Int) ≤ (k : Int) := by omega
        have HX := hide hx
        clear hc c0 cl he hx
        go_wp2_with fail
        refine (szLoad18_any x.p x.nb x.le x.mo x.ne _ _ _ L _ hps hns hL0 (by omega)).mono ?_
        rintro e w2 ⟨⟨r, rfl, hrr⟩, b2⟩
        have BW2 := hide ((unhide BW).trans (b2.mono (unhide BW).size))
        clear s0 s1 s2 s3 s4 s5 b2 BW
        rcases hrr with hrr | ⟨r0, r1, r2, r3⟩
        · go_wp2_with fail
          go_ret
          exact ⟨⟨-1, rfl, .inl (by omega)⟩, unhide BW2⟩
        · have nr : ¬ r < 0 := by omega
          have AL2 : Hid (∀ i, i < k + 1 → (elAt ls i).p.size ≤ 1048576 ∧ (elAt ls i).d.n ≤ 1048576) := hide (fun i hi => by
            by_cases e : i = k
            · rw [e, unhide HX]; exact ⟨r2, r3⟩
            · exact (unhide AL) i (by omega))
          go_wp2_with fail
          go_roundw
          case rel => exact ⟨k + 1, r, rfl, by go_num, by omega, r0, by omega, AL2, BW2⟩
          case measure => simp [intOf]; omega
      · have hi1 : ¬ (k : Int) < (ls.length : Int) := by omega
        have AL2 : Hid (∀ i, i < ls.length → (elAt ls i).p.size ≤ 1048576 ∧ (elAt ls i).d.n ≤ 1048576) := hide (fun i hi => (unhide AL) i (by omega))
        go_wp2_with fail
        go_ret
        exact ⟨⟨L, rfl, .inr ⟨hL0, hL1, by omega, unhide AL2⟩⟩, unhide BW⟩
  · have n0 : left - (ls.length : Int) < 0 := by omega
    go_enter Tryz.func25, Tryz.ntmps25
    go_wp2_with fail
    go_ret
    exact ⟨⟨-1, rfl, .inl (by omega)⟩, Below.refl _ _⟩
set_option maxRecDepth 20000 in
set_option maxHeartbeats 1000000 in
theorem eqLoad18S_same (ad bd : Option Addr) (len cap len2 cap2 : Nat) (ws us : List Lx) (w : World) (hr : LsIn w ad len ws) (hr2 : LsIn w bd len2 us) (he : ws.map lxW = us.map lxW) :
    Calls Tryz.prog 29 #[.slice ad len cap, .slice bd len2 cap2] w fun e w' => e = .returned (.bool true) ∧ Below w.heap.size w w' := by
  have hz := hr.row.len_eq
  have hs := hr.row.small
  have HO := hide hr.row.six
  have hz2 := hr2.row.len_eq
  have HO2 := hide hr2.row.six
  have hl : ws.length = us.length := by simpa using congrArg List.length he
  have HD := hide hr.dat
  have HD2 := hide hr2.dat
  have HE := hide he
  clear hr hr2 he
  subst hz
  have hz2 : ws.length = len2 := hl.trans hz2
  subst hz2
  clear hl
  have hb : ((ws.length : Int) != (ws.length : Int)) = false := by simp
  go_enter Tryz.func29, Tryz.ntmps29
  go_wp2
  go_loopw [5] (fun i wr => ∃ k : Nat, k ≤ ws.length ∧ i = .int .i64 k ∧ Below w.heap.size w wr) (fun i _ => ws.length - (intOf i).toNat)
  case atStart => exact ⟨0, Nat.zero_le _, rfl, Below.refl _ _⟩
  case round =>
    obtain ⟨k, hk, rfl, hbel⟩ := hrel
    by_cases hlt : k < ws.length
    · rcases (unhide HO) with ⟨h0, _⟩ | ⟨bb, off, rfl, _, hc⟩
      · omega
      rcases (unhide HO2) with ⟨h0, _⟩ | ⟨bb2, off2, rfl, _, hc2⟩
      · omega
      obtain ⟨ι, fW, _, hcb, hall⟩ := belClass wr
      have HB := hide hcb
      have HA := hide hall
      have sm := lx_same (unhide HE) hlt
      have a0 := fun x => ((hbel.trans ((hcb x).mono hbel.size)).cell (block_lt_of_cell (hc k hlt).1)).trans (hc k hlt).1
      have a1 := fun x => ((hbel.trans ((hcb x).mono hbel.size)).cell (block_lt_of_cell (hc k hlt).2.1)).trans (hc k hlt).2.1
      have a2 := fun x => ((hbel.trans ((hcb x).mono hbel.size)).cell (block_lt_of_cell (hc k hlt).2.2.1)).trans (hc k hlt).2.2.1
      have a3 := fun x => ((hbel.trans ((hcb x).mono hbel.size)).cell (block_lt_of_cell (hc k hlt).2.2.2.1)).trans (hc k hlt).2.2.2.1
      have a4 := fun x => ((hbel.trans ((hcb x).mono hbel.size)).cell (block_lt_of_cell (hc k hlt).2.2.2.2.1)).trans (hc k hlt).2.2.2.2.1
      have a5 := fun x => ((hbel.trans ((hcb x).mono hbel.size)).cell (block_lt_of_cell (hc k hlt).2.2.2.2.2)).trans (hc k hlt).2.2.2.2.2
      have b0 := fun x => ((hbel.trans ((hcb x).mono hbel.size)).cell (block_lt_of_cell (hc2 k hlt).1)).trans (hc2 k hlt).1
      have b1 := fun x => ((hbel.trans ((hcb x).mono hbel.size)).cell (block_lt_of_cell (hc2 k hlt).2.1)).trans (hc2 k hlt).2.1
      have b2 := fun x => ((hbel.trans ((hcb x).mono hbel.size)).cell (block_lt_of_cell (hc2 k hlt).2.2.1)).trans (hc2 k hlt).2.2.1
      have b3 := fun x => ((hbel.trans ((hcb x).mono hbel.size)).cell (block_lt_of_cell (hc2 k hlt).2.2.2.1)).trans (hc2 k hlt).2.2.2.1
      have b4 := fun x => ((hbel.trans ((hcb x).mono hbel.size)).cell (block_lt_of_cell (hc2 k hlt).2.2.2.2.1)).trans (hc2 k hlt).2.2.2.2.1
      have b5 := fun x => ((hbel.trans ((hcb x).mono hbel.size)).cell (block_lt_of_cell (hc2 k hlt).2.2.2.2.2)).trans (hc2 k hlt).2.2.2.2.2
      rw [← sm.1] at b0
      rw [← sm.2.1] at b1
      rw [← sm.2.2.1] at b2
      rw [← sm.2.2.2.1] at b3
      rw [← sm.2.2.2.2.1] at b4
      have HR : Hid (∀ x, LdIn (fW x) (elAt ws k).d.a (elAt ws k).d.n (elAt ws k).d.zs) := hide (fun x => ⟨((unhide HD) k hlt).below (hbel.trans ((hcb x).mono hbel.size))⟩)
      have HR2 : Hid (∀ x, LdIn (fW x) (elAt us k).d.a (elAt us k).d.n (elAt ws k).d.zs) := hide (fun x => ⟨by rw [sm.2.2.2.2.2]; exact ((unhide HD2) k hlt).below (hbel.trans ((hcb x).mono hbel.size))⟩)
      have hi1 : (0 : Int) ≤ (k : Int) := by omega
      have hi2 : (k : Int) < (ws.length : Int) := by omega
      have BW := hide hbel
      have hnn : (elAt us k).d.n = (elAt ws k).d.n := by
        obtain ⟨x, _⟩ := hall wr (Below.refl _ _)
        have e1 := ((unhide HR) x).r1.len_eq
        have e2 := ((unhide HR2) x).r1.len_eq
        omega
      rw [hnn] at b5 HR2
      obtain ⟨x0, h0⟩ := hall wr (Below.refl _ _)
      rw [h0]
      clear hc hc2 sm hnn hcb hall hbel h0
      go_wp2_with (first | (go_at_call 21; refine (belQ (unhide HB) (unhide HA) (eqLoad18_same _ _ _ _ _ _ _ _ _ _ (elAt ws k).d.zs _ ((unhide HR) _) ((unhide HR2) _))).mono ?_; rintro e _ ⟨rfl, y, rfl⟩))
      repeat (refine wp_region_bel (fun w' h => (unhide HA) w' ((unhide HB _).trans (h.mono (unhide HB _).size))) (by kernel_rfl) (by kernel_rfl) ?_; (repeat (go_big_quiet_step (first | (go_at_call 21; exact belQ (unhide HB) (unhide HA) (eqLoad18_same _ _ _ _ _ _ _ _ _ _ (elAt ws k).d.zs _ ((unhide HR) _) ((unhide HR2) _)))))); refine wpQuiet_nil ?_; rintro _ ⟨y, rfl⟩; (first | go_wp2_with fail | go_wp2))
      go_roundw
      case rel => exact ⟨k + 1, by omega, by go_num, (unhide BW).trans ((unhide HB _).mono (unhide BW).size)⟩
      case measure => simp [intOf]; omega
    · have k1 : ¬ (k : Int) < (ws.length : Int) := by omega
      have BW := hide hbel
      go_wp2_with fail
      go_ret
      exact ⟨rfl, unhide BW⟩

end Go.Proofs.YtemodlgmjgdjpaaGreatDoor
