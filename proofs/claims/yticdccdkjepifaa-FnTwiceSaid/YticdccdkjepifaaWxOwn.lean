/-
  Lists of words: each a link, a sequence and bytes in memory of their own; one word more; the law's comparison. No condition.
-/
import Derived.Test.YticdccdkjepifaaMBuSum
import Derived.Test.YticdccdkjepifaaMAppI
import Derived.Test.YticdccdkjepifaaMAppR
import Derived.Test.YticdccdkjepifaaWdTo
import Derived.Test.YticdccdkjepifaaMOnly
import Derived.Test.YticdccdkjepifaaMBel
namespace Go.Proofs.Yticdccdkjepifaa
open Go Go.RowKit

/-- A word as it lies; what it says. -/
structure Wx where
  l : Int
  s : Int
  d : Sl
instance : Inhabited Wx := ⟨⟨0, 0, default⟩⟩
structure Wc where
  l : Int
  s : Int
  zs : List Int
def wxW (x : Wx) : Wc := ⟨x.l, x.s, x.d.zs⟩
def wxC (x : Wx) : Nat → Value
  | 0 => .int .i64 x.l
  | 1 => .int .i64 x.s
  | _ => slV x.d
def wxV (x : Wx) : List Value := [.int .i64 x.l, .int .i64 x.s, .slice x.d.a x.d.n x.d.c]
theorem wxV_at (x : Wx) : ∀ q, q < 3 → (wxV x)[q]? = some (wxC x q)
  | 0, _ => rfl
  | 1, _ => rfl
  | 2, _ => rfl
theorem wxV_one (x : Wx) : ∀ u ∈ wxV x, u.oneCell' = true := by
  intro u hu
  simp [wxV] at hu
  rcases hu with rfl | rfl | rfl <;> rfl
theorem infoWx : (Try.prog.info? 50).map (fun i => (i.zero, i.size, i.bytes)) = some (some (.agg #[.int .i64 0, .int .i64 0, .slice none 0 0]), 3, 40) := by kernel_rfl

/-- A list of words that a call has made: the list, and the bytes of each word, each in memory of its own. -/
structure OwnWd (w : World) (base : Nat) (v : Value) (ws : List Wx) : Prop where
  out : OwnE 3 wxC w base 50 v ws
  dat : ∀ i, i < ws.length → OwnE 1 byC w base 5 (slV (elAt ws i).d) (elAt ws i).d.zs
  apt : ∀ i, i < ws.length → ∀ g, (slV (elAt ws i).d).ownBlock = some g → v.ownBlock ≠ some g
  par : ∀ i j, i < j → j < ws.length → ∀ g, (slV (elAt ws i).d).ownBlock = some g → (slV (elAt ws j).d).ownBlock ≠ some g
theorem OwnWd.below {w w' : World} {base : Nat} {v : Value} {ws : List Wx} (h : OwnWd w base v ws) (k : Below w.heap.size w w') : OwnWd w' base v ws :=
  ⟨h.out.below k, fun i hi => (h.dat i hi).below k, h.apt, h.par⟩
theorem OwnWd.mono {w : World} {base base' : Nat} {v : Value} {ws : List Wx} (h : OwnWd w base v ws) (hb : base' ≤ base) : OwnWd w base' v ws :=
  ⟨h.out.mono hb, fun i hi => (h.dat i hi).mono hb, h.apt, h.par⟩
theorem OwnWd.set_low {w : World} {base S o : Nat} {v : Value} {ws : List Wx} (h : OwnWd w base v ws) (hS : S < base) (u : Value) : OwnWd (w.setCell ⟨S, o, none⟩ u) base v ws :=
  ⟨h.out.set_other u (fun e => by have := (h.out.lies S e).1; omega), fun i hi => (h.dat i hi).set_other u (fun e => by have := ((h.dat i hi).lies S e).1; omega), h.apt, h.par⟩
/-- Its blocks lie from b on, below u. -/
def WxLies (b u : Nat) (v : Value) (ws : List Wx) : Prop := (∀ g, v.ownBlock = some g → b ≤ g ∧ g < u) ∧ ∀ i, i < ws.length → ∀ g, (slV (elAt ws i).d).ownBlock = some g → b ≤ g ∧ g < u
theorem OwnWd.lies {w : World} {base : Nat} {v : Value} {ws : List Wx} (h : OwnWd w base v ws) : WxLies base w.heap.size v ws := ⟨h.out.lies, fun i hi => (h.dat i hi).lies⟩
theorem OwnWd.only {w w' : World} {base lo hi b u : Nat} {v : Value} {ws : List Wx} (h : OwnWd w base v ws) (k : Only lo hi w w') (hl : WxLies b u v ws) (hs : u ≤ lo ∨ hi ≤ b) : OwnWd w' base v ws :=
  ⟨h.out.only k (fun g hg => by have := hl.1 g hg; omega), fun i hi => (h.dat i hi).only k (fun g hg => by have := hl.2 i hi g hg; omega), h.apt, h.par⟩
theorem ownWd_none {w : World} {base : Nat} (hb : base ≤ w.heap.size) : OwnWd (w.alloc (Obj.cells #[] 50)) base (.slice (some ⟨w.heap.size, 0, none⟩) 0 0) [] :=
  ⟨(ownE_none (w := w) (Nat.le_refl _)).mono hb, fun i hi => by simp at hi, fun i hi => by simp at hi, fun i j _ hj => by simp at hj⟩
theorem elAt_app_l {α : Type} [Inhabited α] {Z : List α} {x : α} {i : Nat} (h : i < Z.length) : elAt (Z ++ [x]) i = elAt Z i := (elAt_app Z x).1 i h
theorem elAt_app_r {α : Type} [Inhabited α] {Z : List α} {x : α} : elAt (Z ++ [x]) Z.length = x := (elAt_app Z x).2
theorem OwnWd.push {w w9 : World} {base g n c : Nat} {v : Value} {ws : List Wx} {x : Wx} (h : OwnWd w base v ws) (o : OwnE 3 wxC w9 base 50 (.slice (some ⟨g, 0, none⟩) n c) (ws ++ [x])) (gr : w.grownBy w9 v.ownBlock) (hg : v.ownBlock = some g ∨ w.heap.size ≤ g)
    (hd : OwnE 1 byC w base 5 (slV x.d) x.d.zs) (hv : ∀ q, (slV x.d).ownBlock = some q → v.ownBlock ≠ some q) (hp : ∀ i, i < ws.length → ∀ q, (slV (elAt ws i).d).ownBlock = some q → (slV x.d).ownBlock ≠ some q) : OwnWd w9 base (.slice (some ⟨g, 0, none⟩) n c) (ws ++ [x]) := by
  have dt : ∀ i, i < (ws ++ [x]).length → OwnE 1 byC w base 5 (slV (elAt (ws ++ [x]) i).d) (elAt (ws ++ [x]) i).d.zs ∧ ∀ q, (slV (elAt (ws ++ [x]) i).d).ownBlock = some q → v.ownBlock ≠ some q := by
    intro i hi
    by_cases e : i < ws.length
    · rw [elAt_app_l e]; exact ⟨h.dat i e, h.apt i e⟩
    · obtain rfl : i = ws.length := by simp at hi; omega
      rw [elAt_app_r]; exact ⟨hd, hv⟩
  refine ⟨o, fun i hi => (dt i hi).1.far gr (fun q hq e => (dt i hi).2 q hq e.symm), fun i hi q hq e => ?_, fun i j hij hj q hq => ?_⟩
  · have e : g = q := Option.some.inj e
    rcases hg with k | k
    · exact (dt i hi).2 q hq (by rw [k, e])
    · have := ((dt i hi).1.lies q hq).2; omega
  · have hi : i < ws.length := by simp at hj; omega
    rw [elAt_app_l hi] at hq
    by_cases e : j < ws.length
    · rw [elAt_app_l e]; exact h.par i j hij e q hq
    · obtain rfl : j = ws.length := by simp at hj; omega
      rw [elAt_app_r]; exact hp i hi q hq
/-- One word more, its three cells lying in a block: what append gives, and where. -/
theorem wpList_app_wx {ops : Array Oper} {rest : List Oper} {o : Oper} {a : Act} {Q : Exit → Act → World → Prop} {w : World} (hgd : o.guard = none) (s xo : Operand) (ho : o.op = .call { callee := .builtin .append, args := #[s, xo], argTypes := #[42, 42] })
    {base n q : Nat} {v : Value} {ws : List Wx} (x : Wx) (hO : OwnE 3 wxC w base 50 v ws) (hn : ws.length = n) (hs : a.eval s = v) (hx : a.eval xo = .slice (some ⟨q, 0, none⟩) 1 1) (hq : ∀ j, j < 3 → w.cell? ⟨q, j, none⟩ = some (wxC x j)) (hb : base ≤ w.heap.size) (hsm : n ≤ 1000)
    (h : ∀ g cap w', OwnE 3 wxC w' base 50 (.slice (some ⟨g, 0, none⟩) (n + 1) cap) (ws ++ [x]) → w.grownBy w' v.ownBlock → (v.ownBlock = some g ∨ w.heap.size ≤ g) → wpList Try.prog ops Q rest (a.put o.dst (.slice (some ⟨g, 0, none⟩) (n + 1) cap)) w') : wpList Try.prog ops Q (o :: rest) a w := by
  subst hn
  obtain ⟨vs, hown, hvx⟩ := hO.own
  obtain ⟨i0, hii, hz0, hz1, hz2⟩ := info_parts infoWx
  refine wpList_append_lies _ hgd s xo 42 ho base 50 i0 (.agg #[.int .i64 0, .int .i64 0, .slice none 0 0]) 3 40 Try.underlying42 hii hz0 hz1 hz2 rfl (by decide) v ws.length vs hs hown ⟨q, 0, none⟩ 1 1 (wxV x) hx rfl (fun j u hj => ?_) (wxV_one x) (by decide) (by unfold maxLen; omega) (by omega) hb _ rfl ?_
  · have hj3 : j < 3 := by
      rcases Nat.lt_or_ge j 3 with k | k
      · exact k
      · rw [List.getElem?_eq_none (by simpa [wxV] using k)] at hj; cases hj
    rw [wxV_at x j hj3] at hj
    have := hq j hj3
    rw [Option.some.inj hj] at this
    rw [addr_addR]
    simpa using this
  · intro g cap w' h1 h2 h3 _
    refine h g cap w' (ownE_app h1 hown.1 hvx (wxV_at x)) h2 ?_
    rcases h3 with h3 | h3
    · exact .inl h3
    · right; omega
/-- What two lists of words read as. -/
structure WxIn (w : World) (a : Option Addr) (len : Nat) (ws : List Wx) : Prop where
  row : RowE 3 wxC w a len ws
  dat : ∀ i, i < len → RowE 1 byC w (elAt ws i).d.a (elAt ws i).d.n (elAt ws i).d.zs
theorem OwnWd.read {w : World} {base : Nat} {a : Option Addr} {len c : Nat} {ws : List Wx} (h : OwnWd w base (.slice a len c) ws) : WxIn w a len ws :=
  ⟨h.out.row, fun i hi => (h.dat i (by have := h.out.row.len_eq; omega)).row⟩
theorem WxIn.below {w w' : World} {a : Option Addr} {len : Nat} {ws : List Wx} (h : WxIn w a len ws) (k : Below w.heap.size w w') : WxIn w' a len ws := ⟨h.row.below k, fun i hi => (h.dat i hi).below k⟩
theorem wx_same {ws us : List Wx} (h : ws.map wxW = us.map wxW) {i : Nat} (hi : i < ws.length) : (elAt ws i).l = (elAt us i).l ∧ (elAt ws i).s = (elAt us i).s ∧ (elAt ws i).d.zs = (elAt us i).d.zs := by
  have hl : ws.length = us.length := by simpa using congrArg List.length h
  have e := congrArg (fun l => l[i]?) h
  simp only [List.getElem?_map, List.getElem?_eq_getElem hi, List.getElem?_eq_getElem (hl ▸ hi), Option.map_some, Option.some.injEq] at e
  have e1 : elAt ws i = ws[i] := by simp [elAt, hi]
  have e2 : elAt us i = us[i]'(hl ▸ hi) := by simp [elAt, hl ▸ hi]
  rw [e1, e2]
  simp only [wxW, Wc.mk.injEq] at e
  exact e
theorem RowE.three {w : World} {a : Option Addr} {len : Nat} {ws : List Wx} (h : RowE 3 wxC w a len ws) : (len = 0 ∧ ws = []) ∨ ∃ b off, a = some ⟨b, off, none⟩ ∧ 0 < len ∧ ∀ i, i < len → w.cell? ⟨b, off + i * 3, none⟩ = some (.int .i64 (elAt ws i).l) ∧ w.cell? ⟨b, off + i * 3 + 1, none⟩ = some (.int .i64 (elAt ws i).s) ∧ w.cell? ⟨b, off + i * 3 + 2, none⟩ = some (.slice (elAt ws i).d.a (elAt ws i).d.n (elAt ws i).d.c) := by
  rcases h.open_ with k | ⟨b, off, ha, h0, hc⟩
  · exact .inl k
  · exact .inr ⟨b, off, ha, h0, fun i hi => ⟨hc i hi 0 (by omega), hc i hi 1 (by omega), hc i hi 2 (by omega)⟩⟩

end Go.Proofs.Yticdccdkjepifaa
