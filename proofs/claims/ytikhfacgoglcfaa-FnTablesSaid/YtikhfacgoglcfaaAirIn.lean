/-
  What the drawing of an air holds on to. No condition.
-/
import Derived.Test.YtikhfacgoglcfaaDrRise
import Derived.Test.YtikhfacgoglcfaaAppS
import Derived.Test.YtikhfacgoglcfaaAppI
import Derived.Test.YtikhfacgoglcfaaBlks
import Derived.Test.YtikhfacgoglcfaaApFar
namespace Go.Proofs.Ytikhfacgoglcfaa
open Go.RowKit

structure Ad (w : World) (C R G : Nat) (a : Option Addr) (len cap : Nat) (W : World) (b : Int) (vS vT : Value) (ss ts : List Int) : Prop where
  d : Dr w C a len cap W
  inn : ∀ b off, a = some ⟨b, off, none⟩ → b < w.heap.size
  cr : C < R
  rg : R < G
  r : Blk W R [.int .i64 0, .slice none 0 0, .slice none 0 0]
  p : Blk W G [.int .i64 b, vS, vT]
  oS : OwnI W (R + 1) vS ss
  oT : OwnI W (R + 1) vT ts
  nS : vS.ownBlock ≠ some G
  nT : vT.ownBlock ≠ some G
  ap : ∀ g, vT.ownBlock = some g → vS.ownBlock ≠ some g
theorem Ad.below {w : World} {C R G : Nat} {a : Option Addr} {len cap : Nat} {W W' : World} {b : Int} {vS vT : Value} {ss ts : List Int} (h : Ad w C R G a len cap W b vS vT ss ts) (k : Below W.heap.size W W') : Ad w C R G a len cap W' b vS vT ss ts :=
  ⟨h.d.below k, h.inn, h.cr, h.rg, h.r.below k, h.p.below k, h.oS.below k, h.oT.below k, h.nS, h.nT, h.ap⟩
theorem Ad.call {w : World} {C R G : Nat} {a : Option Addr} {len cap : Nat} {W W' : World} {b : Int} {vS vT : Value} {ss ts : List Int} (h : Ad w C R G a len cap W b vS vT ss ts) (k : W.grownBy W' (some C)) (d : Dr w C a len cap W') : Ad w C R G a len cap W' b vS vT ss ts := by
  have c1 := h.cr
  have c2 := h.rg
  exact ⟨d, h.inn, h.cr, h.rg, h.r.apart k (fun e => by have := Option.some.inj e; omega), h.p.apart k (fun e => by have := Option.some.inj e; omega), h.oS.far k (fun g hg e => by have := Option.some.inj e; have := (h.oS.lies g hg).1; omega), h.oT.far k (fun g hg e => by have := Option.some.inj e; have := (h.oT.lies g hg).1; omega), h.nS, h.nT, h.ap⟩
theorem Ad.pushS {w : World} {C R G : Nat} {a : Option Addr} {len cap : Nat} {W W' : World} {b : Int} {vS vT : Value} {ss ts zs : List Int} {g9 n c9 : Nat} (h : Ad w C R G a len cap W b vS vT ss ts) (o : OwnI W' (R + 1) (.slice (some ⟨g9, 0, none⟩) n c9) zs) (k : W.grownBy W' vS.ownBlock) (ha : vS.ownBlock = some g9 ∨ W.heap.size < g9) :
    Ad w C R G a len cap (W'.setCell ⟨G, 1, none⟩ (.slice (some ⟨g9, 0, none⟩) n c9)) b (.slice (some ⟨g9, 0, none⟩) n c9) vT zs ts := by
  have c1 := h.cr
  have c2 := h.rg
  have lm := h.oS.lies
  have lo := h.oT.lies
  have hG : G < W.heap.size := h.p.lt
  have gne : g9 ≠ G := fun e => by
    rcases ha with e2 | e2
    · rw [e] at e2; exact h.nS e2
    · omega
  have d1 := h.d.own k (fun q hq => by have := lm q hq; omega) h.inn
  have p1 := h.p.apart k (fun e => h.nS e.symm)
  have r1 := h.r.apart k (fun e => by have := lm _ e.symm; omega)
  have o1 : OwnI W' (R + 1) vT ts := h.oT.far k (fun g hg e => h.ap g hg e.symm)
  have gs : W'.grownBy (W'.setCell ⟨G, 1, none⟩ (.slice (some ⟨g9, 0, none⟩) n c9)) (some G) := grown_set (grown_refl W' (some G)) 1 _
  refine ⟨d1.own gs (fun q hq => by have := Option.some.inj hq; omega) h.inn, h.inn, c1, c2, r1.other (by simp; omega) _, by simpa using p1.set 1 (by simp) (.slice (some ⟨g9, 0, none⟩) n c9), o.set_other _ (by simp [Value.ownBlock]; exact gne), o1.set_other _ h.nT, by simp [Value.ownBlock]; exact gne, h.nT, fun g hg e => ?_⟩
  have e2 : g9 = g := by simpa [Value.ownBlock] using e
  subst e2
  rcases ha with e3 | e3
  · exact h.ap g9 hg e3
  · have := lo g9 hg; omega
theorem Ad.pushT {w : World} {C R G : Nat} {a : Option Addr} {len cap : Nat} {W W' : World} {b : Int} {vS vT : Value} {ss ts zs : List Int} {g9 n c9 : Nat} (h : Ad w C R G a len cap W b vS vT ss ts) (o : OwnI W' (R + 1) (.slice (some ⟨g9, 0, none⟩) n c9) zs) (k : W.grownBy W' vT.ownBlock) (ha : vT.ownBlock = some g9 ∨ W.heap.size < g9) :
    Ad w C R G a len cap (W'.setCell ⟨G, 2, none⟩ (.slice (some ⟨g9, 0, none⟩) n c9)) b vS (.slice (some ⟨g9, 0, none⟩) n c9) ss zs := by
  have c1 := h.cr
  have c2 := h.rg
  have lm := h.oT.lies
  have lo := h.oS.lies
  have hG : G < W.heap.size := h.p.lt
  have gne : g9 ≠ G := fun e => by
    rcases ha with e2 | e2
    · rw [e] at e2; exact h.nT e2
    · omega
  have d1 := h.d.own k (fun q hq => by have := lm q hq; omega) h.inn
  have p1 := h.p.apart k (fun e => h.nT e.symm)
  have r1 := h.r.apart k (fun e => by have := lm _ e.symm; omega)
  have o1 : OwnI W' (R + 1) vS ss := h.oS.far k (fun g hg e => h.ap g e.symm hg)
  have gs : W'.grownBy (W'.setCell ⟨G, 2, none⟩ (.slice (some ⟨g9, 0, none⟩) n c9)) (some G) := grown_set (grown_refl W' (some G)) 2 _
  refine ⟨d1.own gs (fun q hq => by have := Option.some.inj hq; omega) h.inn, h.inn, c1, c2, r1.other (by simp; omega) _, by simpa using p1.set 2 (by simp) (.slice (some ⟨g9, 0, none⟩) n c9), o1.set_other _ h.nS, o.set_other _ (by simp [Value.ownBlock]; exact gne), h.nS, by simp [Value.ownBlock]; exact gne, fun g hg e => ?_⟩
  have e2 : g9 = g := by simpa [Value.ownBlock] using hg
  subst e2
  rcases ha with e3 | e3
  · exact h.ap g9 e3 e
  · have := lo g9 e; omega
theorem Ad.base {w : World} {C R G : Nat} {a : Option Addr} {len cap : Nat} {W : World} {b : Int} {vS vT : Value} {ss ts : List Int} (h : Ad w C R G a len cap W b vS vT ss ts) (b2 : Int) : Ad w C R G a len cap (W.setCell ⟨G, 0, none⟩ (.int .i64 b2)) b2 vS vT ss ts := by
  have c1 := h.cr
  have c2 := h.rg
  have gs : W.grownBy (W.setCell ⟨G, 0, none⟩ (.int .i64 b2)) (some G) := grown_set (grown_refl W (some G)) 0 _
  exact ⟨h.d.own gs (fun q hq => by have := Option.some.inj hq; omega) h.inn, h.inn, c1, c2, h.r.other (by simp; omega) _, by simpa using h.p.set 0 (by simp) (.int .i64 b2), h.oS.set_other _ h.nS, h.oT.set_other _ h.nT, h.nS, h.nT, h.ap⟩
theorem wpList_app_intA {ops : Array Oper} {rest : List Oper} {o : Oper} {a : Act} {Q : Exit → Act → World → Prop} (hgd : o.guard = none) (s xo : Operand)
    (ho : o.op = .call { callee := .builtin .append, args := #[s, xo], argTypes := #[24, 24] }) {wr : World} {base n : Nat} {v : Value} {zs : List Int} (x : Int) (hO : OwnI wr base v zs) (hn : zs.length = n) (hs : a.eval s = v)
    {H : Nat} (hH : wr.heap.size = H) (hx : a.eval xo = .slice (some ⟨H, 0, none⟩) 1 1) (hb : base ≤ wr.heap.size) (hsm : n ≤ 1000000) (hf : -9223372036854775808 ≤ x ∧ x ≤ 9223372036854775807)
    (h : ∀ g cap w', OwnI w' base (.slice (some ⟨g, 0, none⟩) (n + 1) cap) (zs ++ [x]) → wr.grownBy w' v.ownBlock → (v.ownBlock = some g ∨ wr.heap.size < g) → wpList Try.prog ops Q rest (a.put o.dst (.slice (some ⟨g, 0, none⟩) (n + 1) cap)) w') :
    wpList Try.prog ops Q (o :: rest) a (wr.alloc (Obj.cells #[.int .i64 x] 3)) := by
  subst hn
  subst hH
  obtain ⟨vs, hown, hvx⟩ := hO.own
  have hbA := bel1 (w := wr) (Obj.cells #[.int .i64 x] 3)
  have hownA := ownsRow_below hown hbA
  have hnews := World.news_of_block (heap_alloc_new wr (Obj.cells #[.int .i64 x] 3))
  obtain ⟨i0, hii, hz0, hz1, hz2⟩ := info_parts info_int1
  refine wpList_append_lies _ hgd s xo 24 ho base 3 i0 (.int .i64 0) 1 8 Try.underlying24 hii hz0 hz1 hz2 rfl (by decide) v zs.length vs hs hownA ⟨wr.heap.size, 0, none⟩ 1 1 [.int .i64 x] hx rfl hnews (by simp [Value.oneCell']) (by decide) (by unfold maxLen; omega) (by omega) (by simp; omega) _ rfl ?_
  intro g cap w' h1 h2 h3 _
  refine h g cap w' (ownI_app h1 hown.1 hvx hO.fit hf) (grownBy_alloc_then h2) ?_
  rcases h3 with h3 | h3
  · exact .inl h3
  · right; rw [h3]; simp

theorem Ad.setS {w : World} {C R G : Nat} {a : Option Addr} {len cap : Nat} {W : World} {b : Int} {vT : Value} {ss ts : List Int} {g n c : Nat} (h : Ad w C R G a len cap W b (.slice (some ⟨g, 0, none⟩) n c) vT ss ts) (hn : ss.length = n) (h0 : 0 < n) (x : Int) (hx : -2000 ≤ x ∧ x ≤ 2000) :
    Ad w C R G a len cap (W.setCell ⟨g, 0, none⟩ (.int .i64 x)) b (.slice (some ⟨g, 0, none⟩) n c) vT (ss.set 0 x) ts := by
  subst hn
  have c1 := h.cr
  have lg := (h.oS.lies g rfl).1
  have ng : g ≠ G := fun e => h.nS (by rw [e]; rfl)
  have gs : W.grownBy (W.setCell ⟨g, 0, none⟩ (.int .i64 x)) (some g) := grown_set (grown_refl W (some g)) 0 _
  exact ⟨h.d.own gs (fun q hq => by have := Option.some.inj hq; omega) h.inn, h.inn, c1, h.rg, h.r.other (by simp; omega) _, h.p.other (by simp; omega) _, h.oS.set 0 h0 x (by omega), h.oT.set_other _ (fun e => h.ap g e rfl), h.nS, h.nT, h.ap⟩
theorem Ad.setT {w : World} {C R G : Nat} {a : Option Addr} {len cap : Nat} {W : World} {b : Int} {vS : Value} {ss ts : List Int} {g n c : Nat} (h : Ad w C R G a len cap W b vS (.slice (some ⟨g, 0, none⟩) n c) ss ts) (hn : ts.length = n) (h0 : 0 < n) (x : Int) (hx : -2000 ≤ x ∧ x ≤ 2000) :
    Ad w C R G a len cap (W.setCell ⟨g, 0, none⟩ (.int .i64 x)) b vS (.slice (some ⟨g, 0, none⟩) n c) ss (ts.set 0 x) := by
  subst hn
  have c1 := h.cr
  have lg := (h.oT.lies g rfl).1
  have ng : g ≠ G := fun e => h.nT (by rw [e]; rfl)
  have gs : W.grownBy (W.setCell ⟨g, 0, none⟩ (.int .i64 x)) (some g) := grown_set (grown_refl W (some g)) 0 _
  exact ⟨h.d.own gs (fun q hq => by have := Option.some.inj hq; omega) h.inn, h.inn, c1, h.rg, h.r.other (by simp; omega) _, h.p.other (by simp; omega) _, h.oS.set_other _ (fun e => h.ap g rfl e), h.oT.set 0 h0 x (by omega), h.nS, h.nT, h.ap⟩
theorem Ad.clear {w : World} {C R G : Nat} {a : Option Addr} {len cap : Nat} {W : World} {b : Int} {vS vT : Value} {ss ts : List Int} (h : Ad w C R G a len cap W b vS vT ss ts) :
    Ad w C R G a len cap (((W.setCell ⟨G, 0, none⟩ (.int .i64 0)).setCell ⟨G, 1, none⟩ (.slice none 0 0)).setCell ⟨G, 2, none⟩ (.slice none 0 0)) 0 (.slice none 0 0) (.slice none 0 0) [] [] := by
  have c1 := h.cr
  have c2 := h.rg
  have g1 : W.grownBy (((W.setCell ⟨G, 0, none⟩ (.int .i64 0)).setCell ⟨G, 1, none⟩ (.slice none 0 0)).setCell ⟨G, 2, none⟩ (.slice none 0 0)) (some G) := grown_set (grown_set (grown_set (grown_refl W (some G)) 0 _) 1 _) 2 _
  have nil : ∀ V : World, OwnI V (R + 1) (.slice none 0 0) [] := fun V => ⟨⟨[], by simpa using World.ownsRow_nil V (R + 1) 3 1, fun j hj => by simp at hj⟩, fun i => by simp [nth]⟩
  exact ⟨h.d.own g1 (fun q hq => by have := Option.some.inj hq; omega) h.inn, h.inn, c1, c2, ((h.r.other (by simp; omega) _).other (by simp; omega) _).other (by simp; omega) _, by simpa using ((h.p.set 0 (by simp) (.int .i64 0)).set 1 (by simp) (.slice none 0 0)).set 2 (by simp) (.slice none 0 0), nil _, nil _, by simp [Value.ownBlock], by simp [Value.ownBlock], fun g hg => by simp [Value.ownBlock] at hg⟩
/-- What is told. -/
def AirDrawn (w : World) (e : Ending) (w' : World) : Prop := ∃ (b : Int) (a1 a2 : Option Addr) (l1 c1 l2 c2 : Nat) (ss ts : List Int), e = .returned (.agg #[.int .i64 b, .slice a1 l1 c1, .slice a2 l2 c2]) ∧ Row w' a1 l1 ss ∧ Row w' a2 l2 ts ∧ ((∀ g off, a1 = some ⟨g, off, none⟩ → w.heap.size ≤ g) ∧ (∀ g off, a2 = some ⟨g, off, none⟩ → w.heap.size ≤ g)) ∧ Below w.heap.size w w'
theorem OwnI.asRow {w : World} {base : Nat} {v : Value} {zs : List Int} (h : OwnI w base v zs) : ∃ a l c, v = .slice a l c ∧ Row w a l zs ∧ ∀ g off, a = some ⟨g, off, none⟩ → base ≤ g := by
  rcases h.form with ⟨e, e2⟩ | ⟨g, c, e, _⟩
  · subst e; exact ⟨_, _, _, rfl, h.row, fun g off e => by cases e⟩
  · subst e; exact ⟨_, _, _, rfl, h.row, fun g' off e => by
      simp only [Option.some.injEq, Addr.mk.injEq] at e
      obtain ⟨rfl, _⟩ := e
      exact (h.lies g rfl).1⟩
/-- Rows and the result's block, however they came about: told. -/
theorem Ad.told {w : World} {C R G : Nat} {a : Option Addr} {len cap : Nat} {W : World} {b : Int} {vS vT : Value} {ss ts : List Int} (h : Ad w C R G a len cap W b vS vT ss ts) :
    Blk (((W.setCell ⟨R, 0, none⟩ (.int .i64 b)).setCell ⟨R, 1, none⟩ vS).setCell ⟨R, 2, none⟩ vT) R [.int .i64 b, vS, vT] ∧ AirDrawn w (.returned (.agg #[.int .i64 b, vS, vT])) (((W.setCell ⟨R, 0, none⟩ (.int .i64 b)).setCell ⟨R, 1, none⟩ vS).setCell ⟨R, 2, none⟩ vT) := by
  have c1 := h.cr
  have hg := h.d.ge
  have oS := ((h.oS.set_other (S := R) (o := 0) (.int .i64 b) (fun e => by have := (h.oS.lies R e).1; omega)).set_other (S := R) (o := 1) vS (fun e => by have := (h.oS.lies R e).1; omega)).set_other (S := R) (o := 2) vT (fun e => by have := (h.oS.lies R e).1; omega)
  have oT := ((h.oT.set_other (S := R) (o := 0) (.int .i64 b) (fun e => by have := (h.oT.lies R e).1; omega)).set_other (S := R) (o := 1) vS (fun e => by have := (h.oT.lies R e).1; omega)).set_other (S := R) (o := 2) vT (fun e => by have := (h.oT.lies R e).1; omega)
  obtain ⟨a1, l1, k1, e1, r1, q1⟩ := oS.asRow
  obtain ⟨a2, l2, k2, e2, r2, q2⟩ := oT.asRow
  refine ⟨by simpa using ((h.r.set 0 (by simp) (.int .i64 b)).set 1 (by simp) vS).set 2 (by simp) vT, b, a1, a2, l1, k1, l2, k2, ss, ts, by rw [e1, e2], r1, r2, ⟨fun g off e => by have := q1 g off e; omega, fun g off e => by have := q2 g off e; omega⟩, ((h.d.bel.setCell (by simp; omega) _).setCell (by simp; omega) _).setCell (by simp; omega) _⟩

end Go.Proofs.Ytikhfacgoglcfaa
