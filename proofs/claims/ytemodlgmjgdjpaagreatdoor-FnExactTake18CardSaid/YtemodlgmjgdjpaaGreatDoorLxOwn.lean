/-
  Lists of loads: each a text, four numbers and bytes in memory of their own; one load more. No condition.
-/
import Derived.Test.YtemodlgmjgdjpaaGreatDoorMOpenBy
import Derived.Test.YtemodlgmjgdjpaaGreatDoorMLowPure
import Derived.Test.YtemodlgmjgdjpaaGreatDoorMMarkI
import Derived.Test.YtemodlgmjgdjpaaGreatDoorMMake
import Derived.Test.YtemodlgmjgdjpaaGreatDoorLdTo
import Derived.Test.YtemodlgmjgdjpaaGreatDoorMBel
namespace Go.Proofs.YtemodlgmjgdjpaaGreatDoor
open Go Go.RowKit

/-- What a load says. -/
def lxW (x : Lx) : Lc := ⟨x.p, x.nb, x.le, x.mo, x.ne, x.d.zs⟩
def lxV (x : Lx) : List Value := [.string x.p, .int .i64 x.nb, .int .i64 x.le, .int .i64 x.mo, .int .i64 x.ne, .slice x.d.a x.d.n x.d.c]
theorem lxV_at (x : Lx) : ∀ q, q < 6 → (lxV x)[q]? = some (lxC x q)
  | 0, _ => rfl
  | 1, _ => rfl
  | 2, _ => rfl
  | 3, _ => rfl
  | 4, _ => rfl
  | 5, _ => rfl
theorem lxV_one (x : Lx) : ∀ u ∈ lxV x, u.oneCell' = true := by
  intro u hu
  simp [lxV] at hu
  rcases hu with rfl | rfl | rfl | rfl | rfl | rfl <;> rfl
theorem infoLx : (Tryz.prog.info? 32).map (fun i => (i.zero, i.size, i.bytes)) = some (some (.agg #[.string ⟨#[]⟩, .int .i64 0, .int .i64 0, .int .i64 0, .int .i64 0, .slice none 0 0]), 6, 72) := by kernel_rfl
theorem elAt_appL {α : Type} [Inhabited α] {Z : List α} {x : α} {i : Nat} (h : i < Z.length) : elAt (Z ++ [x]) i = elAt Z i := (elAt_app Z x).1 i h
theorem elAt_appR {α : Type} [Inhabited α] {Z : List α} {x : α} : elAt (Z ++ [x]) Z.length = x := (elAt_app Z x).2

/-- A list of loads that a call has made: the list, and the bytes of each load, each in memory of its own. -/
structure OwnLd (w : World) (base : Nat) (v : Value) (ws : List Lx) : Prop where
  out : OwnE 6 lxC w base 32 v ws
  dat : ∀ i, i < ws.length → OwnE 1 byC w base 5 (slV (elAt ws i).d) (elAt ws i).d.zs
  apt : ∀ i, i < ws.length → ∀ g, (slV (elAt ws i).d).ownBlock = some g → v.ownBlock ≠ some g
  par : ∀ i j, i < j → j < ws.length → ∀ g, (slV (elAt ws i).d).ownBlock = some g → (slV (elAt ws j).d).ownBlock ≠ some g
theorem OwnLd.below {w w' : World} {base : Nat} {v : Value} {ws : List Lx} (h : OwnLd w base v ws) (k : Below w.heap.size w w') : OwnLd w' base v ws :=
  ⟨h.out.below k, fun i hi => (h.dat i hi).below k, h.apt, h.par⟩
theorem OwnLd.mono {w : World} {base base' : Nat} {v : Value} {ws : List Lx} (h : OwnLd w base v ws) (hb : base' ≤ base) : OwnLd w base' v ws :=
  ⟨h.out.mono hb, fun i hi => (h.dat i hi).mono hb, h.apt, h.par⟩
theorem OwnLd.set_low {w : World} {base S o : Nat} {v : Value} {ws : List Lx} (h : OwnLd w base v ws) (hS : S < base) (u : Value) : OwnLd (w.setCell ⟨S, o, none⟩ u) base v ws :=
  ⟨h.out.set_other u (fun e => by have := (h.out.lies S e).1; omega), fun i hi => (h.dat i hi).set_other u (fun e => by have := ((h.dat i hi).lies S e).1; omega), h.apt, h.par⟩
/-- Its blocks lie from b on, below u. -/
def LxLies (b u : Nat) (v : Value) (ws : List Lx) : Prop := (∀ g, v.ownBlock = some g → b ≤ g ∧ g < u) ∧ ∀ i, i < ws.length → ∀ g, (slV (elAt ws i).d).ownBlock = some g → b ≤ g ∧ g < u
theorem OwnLd.lies {w : World} {base : Nat} {v : Value} {ws : List Lx} (h : OwnLd w base v ws) : LxLies base w.heap.size v ws := ⟨h.out.lies, fun i hi => (h.dat i hi).lies⟩
theorem OwnLd.only {w w' : World} {base lo hi b u : Nat} {v : Value} {ws : List Lx} (h : OwnLd w base v ws) (k : Only lo hi w w') (hl : LxLies b u v ws) (hs : u ≤ lo ∨ hi ≤ b) : OwnLd w' base v ws :=
  ⟨h.out.only k (fun g hg => by have := hl.1 g hg; omega), fun i hi => (h.dat i hi).only k (fun g hg => by have := hl.2 i hi g hg; omega), h.apt, h.par⟩
theorem ownLd_none {w : World} {base : Nat} (hb : base ≤ w.heap.size) : OwnLd (w.alloc (Obj.cells #[] 32)) base (.slice (some ⟨w.heap.size, 0, none⟩) 0 0) [] :=
  ⟨(ownE_none (w := w) (Nat.le_refl _)).mono hb, fun i hi => by simp at hi, fun i hi => by simp at hi, fun i j _ hj => by simp at hj⟩
theorem OwnLd.push {w w9 : World} {base g n c : Nat} {v : Value} {ws : List Lx} {x : Lx} (h : OwnLd w base v ws) (o : OwnE 6 lxC w9 base 32 (.slice (some ⟨g, 0, none⟩) n c) (ws ++ [x])) (gr : w.grownBy w9 v.ownBlock) (hg : v.ownBlock = some g ∨ w.heap.size ≤ g)
    (hd : OwnE 1 byC w base 5 (slV x.d) x.d.zs) (hv : ∀ q, (slV x.d).ownBlock = some q → v.ownBlock ≠ some q) (hp : ∀ i, i < ws.length → ∀ q, (slV (elAt ws i).d).ownBlock = some q → (slV x.d).ownBlock ≠ some q) : OwnLd w9 base (.slice (some ⟨g, 0, none⟩) n c) (ws ++ [x]) := by
  have dt : ∀ i, i < (ws ++ [x]).length → OwnE 1 byC w base 5 (slV (elAt (ws ++ [x]) i).d) (elAt (ws ++ [x]) i).d.zs ∧ ∀ q, (slV (elAt (ws ++ [x]) i).d).ownBlock = some q → v.ownBlock ≠ some q := by
    intro i hi
    by_cases e : i < ws.length
    · rw [elAt_appL e]; exact ⟨h.dat i e, h.apt i e⟩
    · obtain rfl : i = ws.length := by simp at hi; omega
      rw [elAt_appR]; exact ⟨hd, hv⟩
  refine ⟨o, fun i hi => (dt i hi).1.far gr (fun q hq e => (dt i hi).2 q hq e.symm), fun i hi q hq e => ?_, fun i j hij hj q hq => ?_⟩
  · have e : g = q := Option.some.inj e
    rcases hg with k | k
    · exact (dt i hi).2 q hq (by rw [k, e])
    · have := ((dt i hi).1.lies q hq).2; omega
  · have hi : i < ws.length := by simp at hj; omega
    rw [elAt_appL hi] at hq
    by_cases e : j < ws.length
    · rw [elAt_appL e]; exact h.par i j hij e q hq
    · obtain rfl : j = ws.length := by simp at hj; omega
      rw [elAt_appR]; exact hp i hi q hq
/-- One load more, its six cells lying in a block: what append gives, and where. -/
theorem wpList_app_lx {ops : Array Oper} {rest : List Oper} {o : Oper} {a : Act} {Q : Exit → Act → World → Prop} {w : World} (hgd : o.guard = none) (s xo : Operand) (ho : o.op = .call { callee := .builtin .append, args := #[s, xo], argTypes := #[24, 24] })
    {base n q : Nat} {v : Value} {ws : List Lx} (x : Lx) (hO : OwnE 6 lxC w base 32 v ws) (hn : ws.length = n) (hs : a.eval s = v) (hx : a.eval xo = .slice (some ⟨q, 0, none⟩) 1 1) (hq : ∀ j, j < 6 → w.cell? ⟨q, j, none⟩ = some (lxC x j)) (hb : base ≤ w.heap.size) (hsm : n ≤ 1000)
    (h : ∀ g cap w', OwnE 6 lxC w' base 32 (.slice (some ⟨g, 0, none⟩) (n + 1) cap) (ws ++ [x]) → w.grownBy w' v.ownBlock → (v.ownBlock = some g ∨ w.heap.size ≤ g) → wpList Tryz.prog ops Q rest (a.put o.dst (.slice (some ⟨g, 0, none⟩) (n + 1) cap)) w') : wpList Tryz.prog ops Q (o :: rest) a w := by
  subst hn
  obtain ⟨vs, hown, hvx⟩ := hO.own
  obtain ⟨i0, hii, hz0, hz1, hz2⟩ := info_parts infoLx
  refine wpList_append_lies _ hgd s xo 24 ho base 32 i0 (.agg #[.string ⟨#[]⟩, .int .i64 0, .int .i64 0, .int .i64 0, .int .i64 0, .slice none 0 0]) 6 72 Tryz.underlying24 hii hz0 hz1 hz2 rfl (by decide) v ws.length vs hs hown ⟨q, 0, none⟩ 1 1 (lxV x) hx rfl (fun j u hj => ?_) (lxV_one x) (by decide) (by unfold maxLen; omega) (by omega) hb _ rfl ?_
  · have hj6 : j < 6 := by
      rcases Nat.lt_or_ge j 6 with k | k
      · exact k
      · rw [List.getElem?_eq_none (by simpa [lxV] using k)] at hj; cases hj
    rw [lxV_at x j hj6] at hj
    have := hq j hj6
    rw [Option.some.inj hj] at this
    rw [addr_addR]
    simpa using this
  · intro g cap w' h1 h2 h3 _
    refine h g cap w' (ownE_app h1 hown.1 hvx (lxV_at x)) h2 ?_
    rcases h3 with h3 | h3
    · exact .inl h3
    · right; omega
/-- What two lists of loads read as. -/
structure LsIn (w : World) (a : Option Addr) (len : Nat) (ws : List Lx) : Prop where
  row : RowE 6 lxC w a len ws
  dat : ∀ i, i < len → RowE 1 byC w (elAt ws i).d.a (elAt ws i).d.n (elAt ws i).d.zs
theorem OwnLd.read {w : World} {base : Nat} {a : Option Addr} {len c : Nat} {ws : List Lx} (h : OwnLd w base (.slice a len c) ws) : LsIn w a len ws :=
  ⟨h.out.row, fun i hi => (h.dat i (by have := h.out.row.len_eq; omega)).row⟩
theorem LsIn.below {w w' : World} {a : Option Addr} {len : Nat} {ws : List Lx} (h : LsIn w a len ws) (k : Below w.heap.size w w') : LsIn w' a len ws := ⟨h.row.below k, fun i hi => (h.dat i hi).below k⟩
theorem lx_same {ws us : List Lx} (h : ws.map lxW = us.map lxW) {i : Nat} (hi : i < ws.length) : (elAt ws i).p = (elAt us i).p ∧ (elAt ws i).nb = (elAt us i).nb ∧ (elAt ws i).le = (elAt us i).le ∧ (elAt ws i).mo = (elAt us i).mo ∧ (elAt ws i).ne = (elAt us i).ne ∧ (elAt ws i).d.zs = (elAt us i).d.zs := by
  have hl : ws.length = us.length := by simpa using congrArg List.length h
  have e := congrArg (fun l => l[i]?) h
  simp only [List.getElem?_map, List.getElem?_eq_getElem hi, List.getElem?_eq_getElem (hl ▸ hi), Option.map_some, Option.some.injEq] at e
  have e1 : elAt ws i = ws[i] := by simp [elAt, hi]
  have e2 : elAt us i = us[i]'(hl ▸ hi) := by simp [elAt, hl ▸ hi]
  rw [e1, e2]
  simp only [lxW, Lc.mk.injEq] at e
  exact e
theorem RowE.six {w : World} {a : Option Addr} {len : Nat} {ws : List Lx} (h : RowE 6 lxC w a len ws) : (len = 0 ∧ ws = []) ∨ ∃ b off, a = some ⟨b, off, none⟩ ∧ 0 < len ∧ ∀ i, i < len → w.cell? ⟨b, off + i * 6, none⟩ = some (.string (elAt ws i).p) ∧ w.cell? ⟨b, off + i * 6 + 1, none⟩ = some (.int .i64 (elAt ws i).nb) ∧ w.cell? ⟨b, off + i * 6 + 2, none⟩ = some (.int .i64 (elAt ws i).le) ∧ w.cell? ⟨b, off + i * 6 + 3, none⟩ = some (.int .i64 (elAt ws i).mo) ∧ w.cell? ⟨b, off + i * 6 + 4, none⟩ = some (.int .i64 (elAt ws i).ne) ∧ w.cell? ⟨b, off + i * 6 + 5, none⟩ = some (.slice (elAt ws i).d.a (elAt ws i).d.n (elAt ws i).d.c) := by
  rcases h.open_ with k | ⟨b, off, ha, h0, hc⟩
  · exact .inl k
  · exact .inr ⟨b, off, ha, h0, fun i hi => ⟨hc i hi 0 (by omega), hc i hi 1 (by omega), hc i hi 2 (by omega), hc i hi 3 (by omega), hc i hi 4 (by omega), hc i hi 5 (by omega)⟩⟩

end Go.Proofs.YtemodlgmjgdjpaaGreatDoor
