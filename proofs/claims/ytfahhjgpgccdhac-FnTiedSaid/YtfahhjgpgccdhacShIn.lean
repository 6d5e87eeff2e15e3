/-
  What lies in memory while a net is shed: the net, the islands, what is left, and the list that grows or the marks. No condition.
-/
import Derived.Test.YtfahhjgpgccdhacShPure
import Derived.Test.YtfahhjgpgccdhacLists
import Derived.Test.YtfahhjgpgccdhacRowBo
namespace Go.Proofs.Ytfahhjgpgccdhac
open Go.RowKit

theorem wpList_app_lies {ops : Array Oper} {rest : List Oper} {o : Oper} {a : Act} {Q : Exit → Act → World → Prop} (hgd : o.guard = none) (s xo : Operand)
    (ho : o.op = .call { callee := .builtin .append, args := #[s, xo], argTypes := #[46, 46] }) {wr : World} {base n : Nat} {v : Value} {zs : List Int} (x : Int) (hO : OwnI wr base v zs) (hn : zs.length = n) (hs : a.eval s = v)
    {H : Nat} (hH : wr.heap.size = H) (hx : a.eval xo = .slice (some ⟨H, 0, none⟩) 1 1) (hb : base ≤ wr.heap.size) (hsm : n ≤ 1000000) (hf : -9223372036854775808 ≤ x ∧ x ≤ 9223372036854775807)
    (h : ∀ g cap w', OwnI w' base (.slice (some ⟨g, 0, none⟩) (n + 1) cap) (zs ++ [x]) → wr.grownBy w' v.ownBlock → (v.ownBlock = some g ∨ wr.heap.size < g) → wpList Try.prog ops Q rest (a.put o.dst (.slice (some ⟨g, 0, none⟩) (n + 1) cap)) w') :
    wpList Try.prog ops Q (o :: rest) a (wr.alloc (Obj.cells #[.int .i64 x] 3)) := by
  subst hn
  subst hH
  obtain ⟨vs, hown, hvx⟩ := hO.own
  have hbA := bel1 (w := wr) (Obj.cells #[.int .i64 x] 3)
  have hownA := ownsRow_below hown hbA
  have hnews := World.news_of_block (heap_alloc_new wr (Obj.cells #[.int .i64 x] 3))
  obtain ⟨i0, hii, hz0, hz1, hz2⟩ := info_parts info_int1
  refine wpList_append_lies _ hgd s xo 46 ho base 3 i0 (.int .i64 0) 1 8 Try.underlying46 hii hz0 hz1 hz2 rfl (by decide) v zs.length vs hs hownA ⟨wr.heap.size, 0, none⟩ 1 1 [.int .i64 x] hx rfl hnews (by simp [Value.oneCell']) (by decide) (by unfold maxLen; omega) (by omega) (by simp; omega) _ rfl ?_
  intro g cap w' h1 h2 h3 _
  exact h g cap w' (ownI_app h1 hown.1 hvx hO.fit hf) (grownBy_alloc_then h2) (by
    rcases h3 with h3 | h3
    · exact .inl h3
    · right; rw [h3]; simp)

/-- The net, the islands, what is left. -/
structure ShA (w wr : World) (pv : List Value) (is L : List Int) (N gi ci gl cl : Nat) : Prop where
  p : Blk wr w.heap.size pv
  i : OwnI wr (w.heap.size + 1) (.slice (some ⟨gi, 0, none⟩) N ci) is
  l : OwnI wr (w.heap.size + 1) (.slice (some ⟨gl, 0, none⟩) N cl) L
  li : is.length = N
  ll : L.length = N
  d : gi ≠ gl
  b : Below w.heap.size w wr
theorem ShA.below {w wr w' : World} {pv : List Value} {is L : List Int} {N gi ci gl cl : Nat} (h : ShA w wr pv is L N gi ci gl cl) (k : Below wr.heap.size wr w') : ShA w w' pv is L N gi ci gl cl :=
  ⟨h.p.below k, h.i.below k, h.l.below k, h.li, h.ll, h.d, h.b.trans (k.mono h.b.size)⟩
theorem ShA.at {w wr : World} {pv : List Value} {is L : List Int} {N gi ci gl cl : Nat} (h : ShA w wr pv is L N gi ci gl cl) (j : Nat) (hj : j < N) : wr.cell? ⟨gi, j, none⟩ = some (.int .i64 (nth is j)) ∧ wr.cell? ⟨gl, j, none⟩ = some (.int .i64 (nth L j)) ∧ wr.frozen? ⟨gl, j, none⟩ = false := by
  have h1 := h.i; have h2 := h.l
  rw [← h.li] at h1; rw [← h.ll] at h2
  exact ⟨(h1.here j (by rw [h.li]; exact hj)).1, (h2.here j (by rw [h.ll]; exact hj)).1, (h2.here j (by rw [h.ll]; exact hj)).2⟩
theorem ShA.set {w wr : World} {pv : List Value} {is L : List Int} {N gi ci gl cl : Nat} (h : ShA w wr pv is L N gi ci gl cl) (j : Nat) (hj : j < N) (x : Int) (hx : -9223372036854775808 ≤ x ∧ x ≤ 9223372036854775807) : ShA w (wr.setCell ⟨gl, j, none⟩ (.int .i64 x)) pv is (L.set j x) N gi ci gl cl := by
  have hg := h.l.lies gl rfl
  have h2 := h.l
  rw [← h.ll] at h2
  have h3 := h2.set j (by rw [h.ll]; exact hj) x hx
  rw [h.ll] at h3
  exact ⟨h.p.other (by simp; omega) _, h.i.set_other _ (by simp [Value.ownBlock]; exact h.d), h3, h.li, by simp [h.ll], h.d, h.b.setCell (by simp; omega) _⟩
theorem ShA.grow {w wr w' : World} {pv : List Value} {is L : List Int} {N gi ci gl cl : Nat} {row : Option Nat} (h : ShA w wr pv is L N gi ci gl cl) (k : wr.grownBy w' row) (hr : ∀ g, row = some g → w.heap.size < g ∧ g ≠ gi ∧ g ≠ gl) : ShA w w' pv is L N gi ci gl cl :=
  ⟨h.p.apart k (fun e => by have := hr _ e.symm; omega), h.i.far k (fun g hg e => by have := hr _ e.symm; simp [Value.ownBlock] at hg; omega), h.l.far k (fun g hg e => by have := hr _ e.symm; simp [Value.ownBlock] at hg; omega), h.li, h.ll, h.d, h.b.grown k h.b.size (fun g hg => by have := hr g hg; omega)⟩

/-- The same, and the list of those that are not fed. -/
structure ShB (w wr : World) (pv : List Value) (is L W : List Int) (N gi ci gl cl gw k cw : Nat) : Prop extends ShA w wr pv is L N gi ci gl cl where
  o : OwnI wr (w.heap.size + 1) (.slice (some ⟨gw, 0, none⟩) k cw) W
  lo : W.length = k
  dw : gw ≠ gi ∧ gw ≠ gl
theorem ShB.below {w wr w' : World} {pv : List Value} {is L W : List Int} {N gi ci gl cl gw k cw : Nat} (h : ShB w wr pv is L W N gi ci gl cl gw k cw) (q : Below wr.heap.size wr w') : ShB w w' pv is L W N gi ci gl cl gw k cw :=
  ⟨h.toShA.below q, h.o.below q, h.lo, h.dw⟩
theorem ShB.set {w wr : World} {pv : List Value} {is L W : List Int} {N gi ci gl cl gw k cw : Nat} (h : ShB w wr pv is L W N gi ci gl cl gw k cw) (j : Nat) (hj : j < N) (x : Int) (hx : -9223372036854775808 ≤ x ∧ x ≤ 9223372036854775807) : ShB w (wr.setCell ⟨gl, j, none⟩ (.int .i64 x)) pv is (L.set j x) W N gi ci gl cl gw k cw :=
  ⟨h.toShA.set j hj x hx, h.o.set_other _ (by simp [Value.ownBlock]; exact h.dw.2), h.lo, h.dw⟩
theorem ShB.push {w wr w' : World} {pv : List Value} {is L W : List Int} {N gi ci gl cl gw k cw g cap : Nat} {x : Int} (h : ShB w wr pv is L W N gi ci gl cl gw k cw) (ho : OwnI w' (w.heap.size + 1) (.slice (some ⟨g, 0, none⟩) (k + 1) cap) (W ++ [x])) (hg : wr.grownBy w' (some gw)) (ha : (Value.slice (some ⟨gw, 0, none⟩) k cw).ownBlock = some g ∨ wr.heap.size < g) : ShB w w' pv is L (W ++ [x]) N gi ci gl cl g (k + 1) cap := by
  have hl := h.o.lies gw rfl
  have hli := h.i.lies gi rfl
  have hll := h.l.lies gl rfl
  refine ⟨h.toShA.grow hg (fun q hq => by cases hq; exact ⟨by omega, h.dw.1, h.dw.2⟩), ho, by simp [h.lo], ?_⟩
  rcases ha with ha | ha
  · simp [Value.ownBlock] at ha; rw [← ha]; exact h.dw
  · omega

/-- The same, and the marks of those that are fed. -/
structure ShC (w wr : World) (pv : List Value) (is L : List Int) (F : List Bool) (N gi ci gl cl gf k cf : Nat) : Prop extends ShA w wr pv is L N gi ci gl cl where
  f : OwnE 1 boC wr (w.heap.size + 1) 4 (.slice (some ⟨gf, 0, none⟩) k cf) F
  lf : F.length = k
  df : gf ≠ gi ∧ gf ≠ gl
theorem ShC.below {w wr w' : World} {pv : List Value} {is L : List Int} {F : List Bool} {N gi ci gl cl gf k cf : Nat} (h : ShC w wr pv is L F N gi ci gl cl gf k cf) (q : Below wr.heap.size wr w') : ShC w w' pv is L F N gi ci gl cl gf k cf :=
  ⟨h.toShA.below q, h.f.below q, h.lf, h.df⟩
theorem ShC.set {w wr : World} {pv : List Value} {is L : List Int} {F : List Bool} {N gi ci gl cl gf k cf : Nat} (h : ShC w wr pv is L F N gi ci gl cl gf k cf) (j : Nat) (hj : j < N) (x : Int) (hx : -9223372036854775808 ≤ x ∧ x ≤ 9223372036854775807) : ShC w (wr.setCell ⟨gl, j, none⟩ (.int .i64 x)) pv is (L.set j x) F N gi ci gl cl gf k cf :=
  ⟨h.toShA.set j hj x hx, h.f.set_other _ (by simp [Value.ownBlock]; exact h.df.2), h.lf, h.df⟩
theorem ShC.mark {w wr : World} {pv : List Value} {is L : List Int} {F : List Bool} {N gi ci gl cl gf k cf : Nat} (h : ShC w wr pv is L F N gi ci gl cl gf k cf) (j : Nat) (hj : j < k) (b : Bool) : ShC w (wr.setCell ⟨gf, j, none⟩ (.bool b)) pv is L (F.set j b) N gi ci gl cl gf k cf := by
  have hg := h.f.lies gf rfl
  exact ⟨h.toShA.grow (grown_set (grown_refl wr (some gf)) j _) (fun q hq => by cases hq; exact ⟨by omega, h.df.1, h.df.2⟩), h.f.set1 h.lf j hj _ b rfl, by simp [h.lf], h.df⟩
theorem ShC.at_ {w wr : World} {pv : List Value} {is L : List Int} {F : List Bool} {N gi ci gl cl gf k cf : Nat} (h : ShC w wr pv is L F N gi ci gl cl gf k cf) (j : Nat) (hj : j < k) : wr.cell? ⟨gf, j, none⟩ = some (.bool (elAt F j)) ∧ wr.frozen? ⟨gf, j, none⟩ = false := h.f.here1 h.lf j hj

end Go.Proofs.Ytfahhjgpgccdhac
