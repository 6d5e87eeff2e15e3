/-
  What is plain of a fleet that is drawn: its lists rise, each element is so, the fleet is so. No program here.
  A fleet that grows as it is drawn: the cursor, the result's block, the fleet's block, the names, its three lists apart. No condition.
-/
import Derived.Test.YtfnnfldfnjnlfagMWrOrd
import Derived.Test.YtfnnfldfnjnlfagDwDe
import Derived.Test.YtfnnfldfnjnlfagMFlIn
import Derived.Test.YtfnnfldfnjnlfagMDraw

namespace Go.Proofs.Ytfnnfldfnjnlfag
open Go Go.RowKit

def nmC : List ByteArray := [⟨#[98, 101, 108, 116]⟩, ⟨#[108, 97, 109, 112]⟩, ⟨#[114, 97, 100, 105, 111]⟩, ⟨#[115, 101, 97, 116]⟩]
def nmT : List ByteArray := [⟨#[101, 110, 103, 105, 110, 101]⟩, ⟨#[102, 114, 97, 109, 101]⟩, ⟨#[103, 101, 97, 114]⟩, ⟨#[119, 105, 110, 103]⟩]
def nmD : List ByteArray := [⟨#[98, 101, 108, 116]⟩, ⟨#[108, 97, 109, 112]⟩, ⟨#[114, 97, 100, 105, 111]⟩, ⟨#[115, 101, 97, 116]⟩, ⟨#[108, 97, 109, 112]⟩]
theorem elAt_memF {α : Type} [Inhabited α] {xs : List α} {i : Nat} (h : i < xs.length) : elAt xs i ∈ xs := by
  have e : elAt xs i = xs[i] := by simp [elAt, h]
  rw [e]; exact List.getElem_mem h
theorem nm_rise {nm : List ByteArray} (h : nm.length = 4) (d : ∀ i, i < 4 → ∀ q, q < i → sLt (elAt nm q) (elAt nm i) = true) {i : Nat} (hi : i < nm.length) : ∀ q, q < i → sLt (elAt nm q) (elAt nm i) = true := fun q hq => d i (by omega) q hq
theorem nmC_rise {i : Nat} (hi : i < 4) : ∀ q, q < i → sLt (elAt nmC q) (elAt nmC i) = true := (by decide +kernel : ∀ i, i < 4 → ∀ q, q < i → sLt (elAt nmC q) (elAt nmC i) = true) i hi
theorem nmT_rise {i : Nat} (hi : i < 4) : ∀ q, q < i → sLt (elAt nmT q) (elAt nmT i) = true := (by decide +kernel : ∀ i, i < 4 → ∀ q, q < i → sLt (elAt nmT q) (elAt nmT i) = true) i hi
theorem nmC_name {i : Nat} (hi : i < 4) : nameB (elAt nmC i) = true := (by decide +kernel : ∀ i, i < 4 → nameB (elAt nmC i) = true) i hi
theorem nmT_name {i : Nat} (hi : i < 4) : nameB (elAt nmT i) = true := (by decide +kernel : ∀ i, i < 4 → nameB (elAt nmT i) = true) i hi
theorem nmD_name {i : Nat} (hi : i < 5) : nameB (elAt nmD i) = true := (by decide +kernel : ∀ i, i < 5 → nameB (elAt nmD i) = true) i hi
/-- Names that rise, taken of the first i of a list. -/
def NmI (nm : List ByteArray) (xs : List ByteArray) (i : Nat) : Prop := xs.length ≤ i ∧ riseS xs = true ∧ ∀ x ∈ xs, ∃ q, q < i ∧ x = elAt nm q
theorem NmI.nil (nm : List ByteArray) : NmI nm [] 0 := ⟨Nat.le_refl _, riseS_true (fun i hi => by simp at hi), fun x hx => by simp at hx⟩
theorem NmI.skip {nm xs : List ByteArray} {i : Nat} (h : NmI nm xs i) : NmI nm xs (i + 1) := ⟨by have := h.1; omega, h.2.1, fun x hx => by obtain ⟨q, a, b⟩ := h.2.2 x hx; exact ⟨q, by omega, b⟩⟩
theorem NmI.push {nm xs : List ByteArray} {i : Nat} (h : NmI nm xs i) (hr : ∀ q, q < i → sLt (elAt nm q) (elAt nm i) = true) : NmI nm (xs ++ [elAt nm i]) (i + 1) := by
  refine ⟨by have := h.1; simp; omega, riseS_true (fun j hj => ?_), fun x hx => ?_⟩
  · rw [List.length_append, List.length_singleton] at hj
    have e := elAt_app xs (elAt nm i)
    rw [e.1 j (by omega)]
    by_cases c : j + 1 < xs.length
    · rw [e.1 _ c]; exact riseS_at h.2.1 c
    · rw [show j + 1 = xs.length by omega, e.2]
      obtain ⟨q, a, b⟩ := h.2.2 (elAt xs j) (elAt_memF (by omega))
      rw [b]; exact hr q a
  · rcases List.mem_append.1 hx with hx | hx
    · obtain ⟨q, a, b⟩ := h.2.2 x hx; exact ⟨q, by omega, b⟩
    · rw [List.mem_singleton] at hx; exact ⟨i, by omega, hx⟩
/-- Carries behind i names. -/
def CaI (cs : List Cr) (i : Nat) : Prop := NmI nmC (cs.map (fun x : Cr => x.n)) i ∧ ∀ x ∈ cs, crB x = true
theorem CaI.nil : CaI [] 0 := ⟨NmI.nil _, fun x hx => by simp at hx⟩
theorem CaI.skip {cs : List Cr} {i : Nat} (h : CaI cs i) : CaI cs (i + 1) := ⟨h.1.skip, h.2⟩
theorem CaI.push {cs : List Cr} {i : Nat} {m d : Int} (h : CaI cs i) (hi : i < 4) (hm : 0 ≤ m ∧ m < 4) (hd : 0 ≤ d ∧ d < 60) : CaI (cs ++ [⟨elAt nmC i, m, d⟩]) (i + 1) := by
  refine ⟨?_, fun x hx => ?_⟩
  · rw [List.map_append]; exact h.1.push (nmC_rise hi)
  · rcases List.mem_append.1 hx with hx | hx
    · exact h.2 x hx
    · rw [List.mem_singleton] at hx; rw [hx]; simp [crB, nmC_name hi, inB]; omega
theorem CaI.len {cs : List Cr} {i : Nat} (h : CaI cs i) : cs.length ≤ i := by have := h.1.1; simpa using this
/-- Tasks behind i names. -/
def TaI (ts : List Ts) (i : Nat) : Prop := NmI nmT (ts.map (fun x : Ts => x.nm)) i ∧ ∀ x ∈ ts, ∃ q, q < 4 ∧ TkD (elAt nmT q) 51 x
theorem TaI.nil : TaI [] 0 := ⟨NmI.nil _, fun x hx => by simp at hx⟩
theorem TaI.skip {ts : List Ts} {i : Nat} (h : TaI ts i) : TaI ts (i + 1) := ⟨h.1.skip, h.2⟩
theorem TaI.push {ts : List Ts} {i : Nat} {t : Ts} (h : TaI ts i) (hi : i < 4) (ht : TkD (elAt nmT i) 51 t) : TaI (ts ++ [t]) (i + 1) := by
  refine ⟨?_, fun x hx => ?_⟩
  · rw [List.map_append, List.map_singleton, ht.1]; exact h.1.push (nmT_rise hi)
  · rcases List.mem_append.1 hx with hx | hx
    · exact h.2 x hx
    · rw [List.mem_singleton] at hx; rw [hx]; exact ⟨i, hi, ht⟩
theorem TaI.len {ts : List Ts} {i : Nat} (h : TaI ts i) : ts.length ≤ i := by have := h.1.1; simpa using this
/-- Defects: the last one's item is at most 'it'. -/
def DfI (nd : Int) (ds : List Df) (it : Int) : Prop := riseB (ds.map (fun x : Df => x.i)) = true ∧ ds.length ≤ 3 ∧ 0 ≤ it ∧ it ≤ 3 * (ds.length : Int) ∧ ∀ x ∈ ds, dkB nd x = true ∧ x.i ≤ it ∧ x.n.size ≤ 20
theorem DfI.nil (nd : Int) : DfI nd [] 0 := ⟨by decide, by simp, by omega, by simp, fun x hx => by simp at hx⟩
theorem nm_size {x : ByteArray} (h : nameB x = true) : x.size ≤ 20 := by
  simp only [nameB, inB, Bool.and_eq_true, decide_eq_true_eq] at h
  omega
theorem DfI.push {nd it j s : Int} {ds : List Df} {n : ByteArray} (h : DfI nd ds it) (hl : ds.length ≤ 2) (hn : nameB n = true) (hj : it + 1 ≤ j ∧ j ≤ it + 3) (hs : 0 ≤ s ∧ s ≤ nd) : DfI nd (ds ++ [⟨n, j, s⟩]) j := by
  obtain ⟨h1, h2, h3, h4, h5⟩ := h
  refine ⟨?_, by simp; omega, by omega, by simp; omega, fun x hx => ?_⟩
  · have e : ∀ q, q < ds.length → nth ((ds ++ [(⟨n, j, s⟩ : Df)]).map (fun x : Df => x.i)) q = (elAt ds q).i := fun q hq => by
      rw [nthI_at (key := fun x : Df => x.i) (by simp; omega), (elAt_app ds _).1 q hq]
    have el : nth ((ds ++ [(⟨n, j, s⟩ : Df)]).map (fun x : Df => x.i)) ds.length = j := by
      rw [nthI_at (key := fun x : Df => x.i) (by simp), (elAt_app ds _).2]
    refine decide_eq_true (fun q hq => ?_)
    rw [List.length_map, List.length_append, List.length_singleton] at hq
    rw [e q (by omega)]
    by_cases c : q + 1 < ds.length
    · rw [e _ c]
      have k := of_decide_eq_true h1 q (by rw [List.length_map]; omega)
      rw [nthI_at (key := fun x : Df => x.i) (by omega), nthI_at (key := fun x : Df => x.i) c] at k
      exact k
    · rw [show q + 1 = ds.length by omega, el]
      have := (h5 _ (elAt_memF (xs := ds) (i := q) (by omega))).2.1
      omega
  · rcases List.mem_append.1 hx with hx | hx
    · obtain ⟨k1, k2, k3⟩ := h5 x hx
      exact ⟨k1, by omega, k3⟩
    · rw [List.mem_singleton] at hx; rw [hx]
      exact ⟨by simp [dkB, hn, inB]; omega, Int.le_refl _, nm_size hn⟩
/-- A drawn fleet is so. -/
theorem drawn_flB {ts : List Ts} {cs : List Cr} {ds : List Df} {nh nc nd it : Int} (hn : (50 ≤ nh ∧ nh ≤ 200) ∧ (50 ≤ nc ∧ nc ≤ 200) ∧ (50 ≤ nd ∧ nd ≤ 200)) (h1 : TaI ts 4) (h2 : CaI cs 4) (h3 : DfI nd ds it) : flB ⟨ts, cs, ds, nh, nc, nd⟩ = true := by
  have a1 : ckB nh nc nd = true := by simp [ckB, inB]; omega
  have a2 : caB cs = true := by
    rw [caB, listS_all (by have := h2.len; omega) (fun i hi => h2.2 _ (elAt_memF hi))]
    exact h2.1.2.1
  have a3 : listS 40 (tkB nh nc nd) (fun x : Ts => x.nm) ts = true := by
    rw [listS_all (by have := h1.len; omega) (fun i hi => ?_)]
    · exact h1.1.2.1
    · have hm := elAt_memF hi
      generalize elAt ts i = t at hm ⊢
      obtain ⟨q, hq, e, b1, b2, b3, b4, b5, b6, b7⟩ := h1.2 t hm
      have e2 : nameB t.nm = true := by rw [e]; exact nmT_name hq
      simp [tkB, tsB, bhB, ckB, inB, e2]
      omega
  have a4 : listI 20 (dkB nd) (fun x : Df => x.i) ds = true := by
    rw [listI_all (by have := h3.2.1; omega) (fun i hi => (h3.2.2.2.2 _ (elAt_memF hi)).1)]
    exact h3.1
  show (ckB nh nc nd && caB cs && listS 40 (tkB nh nc nd) (fun x : Ts => x.nm) ts && listI 20 (dkB nd) (fun x : Df => x.i) ds) = true
  rw [a1, a2, a3, a4]; rfl

end Go.Proofs.Ytfnnfldfnjnlfag

namespace Go.Proofs.Ytfnnfldfnjnlfag
open Go Go.RowKit

theorem Dk.row {w : World} {C : Nat} {a : Option Addr} {len cap : Nat} {W0 W W' : World} {row : Option Nat} (h : Dk w C a len cap W0 W) (gr : W.grownBy W' row) (hB : ∀ q, row = some q → W0.heap.size ≤ q) : Dk w C a len cap W0 W' :=
  ⟨h.d.own gr (fun k hk => by have e := hB k hk; have := h.lo; omega) h.inn, h.g.growN gr (fun q hq => .inr (hB q hq)), h.inn, h.lo⟩
theorem own_neF {α β : Type} [Inhabited α] [Inhabited β] {K K' : Nat} {cells : α → Nat → Value} {cells' : β → Nat → Value} {w : World} {base base' : Nat} {T T' : TypeId} {v v' : Value} {ps : List α} {qs : List β} (h : OwnE K cells w base T v ps) (h' : OwnE K' cells' w base' T' v' qs) (hT : T ≠ T') : ∀ g, v.ownBlock = some g → v'.ownBlock ≠ some g := by
  intro g hg hg'
  obtain ⟨xs, ho, _⟩ := h.own
  obtain ⟨ys, ho', _⟩ := h'.own
  rcases ho.2 with ⟨e, _⟩ | ⟨g1, c1, cur1, rfl, _, hb1, _⟩
  · rw [e] at hg; simp [Value.ownBlock] at hg
  rcases ho'.2 with ⟨e, _⟩ | ⟨g2, c2, cur2, rfl, _, hb2, _⟩
  · rw [e] at hg'; simp [Value.ownBlock] at hg'
  have e1 : g1 = g := Option.some.inj hg
  have e2 : g2 = g := Option.some.inj hg'
  rw [e1] at hb1
  rw [e2, hb1] at hb2
  simp only [Option.some.injEq, Obj.cells.injEq] at hb2
  exact hT hb2.2.1
structure Fg (w : World) (C R B gn : Nat) (a : Option Addr) (len cap : Nat) (W0 W : World) (nh nc nd : Int) (v1 v2 v3 : Value) (ts : List Ts) (cs : List Cr) (ds : List Df) : Prop where
  k : Dk w C a len cap W0 W
  cb : W0.heap.size ≤ R ∧ R < B ∧ B < gn
  r : Blk W R [.slice none 0 0, .slice none 0 0, .slice none 0 0, .int .i64 0, .int .i64 0, .int .i64 0]
  p : Blk W B [v1, v2, v3, .int .i64 nh, .int .i64 nc, .int .i64 nd]
  n : Blk W gn (nmT.map Value.string)
  o1 : OwnE 7 tsC W W0.heap.size 44 v1 ts
  o2 : OwnE 3 crC W W0.heap.size 54 v2 cs
  o3 : OwnE 3 dfC W W0.heap.size 56 v3 ds
  f1 : ∀ q, v1.ownBlock = some q → q ≠ R ∧ q ≠ B ∧ q ≠ gn
  f2 : ∀ q, v2.ownBlock = some q → q ≠ R ∧ q ≠ B ∧ q ≠ gn
  f3 : ∀ q, v3.ownBlock = some q → q ≠ R ∧ q ≠ B ∧ q ≠ gn
theorem Fg.below {w : World} {C R B gn : Nat} {a : Option Addr} {len cap : Nat} {W0 W : World} {nh nc nd : Int} {v1 v2 v3 : Value} {ts : List Ts} {cs : List Cr} {ds : List Df} {W' : World} (h : Fg w C R B gn a len cap W0 W nh nc nd v1 v2 v3 ts cs ds) (b : Below W.heap.size W W') : Fg w C R B gn a len cap W0 W' nh nc nd v1 v2 v3 ts cs ds :=
  ⟨h.k.below b, h.cb, h.r.below b, h.p.below b, h.n.below b, h.o1.below b, h.o2.below b, h.o3.below b, h.f1, h.f2, h.f3⟩
theorem Fg.call {w : World} {C R B gn : Nat} {a : Option Addr} {len cap : Nat} {W0 W : World} {nh nc nd : Int} {v1 v2 v3 : Value} {ts : List Ts} {cs : List Cr} {ds : List Df} {W' : World} (h : Fg w C R B gn a len cap W0 W nh nc nd v1 v2 v3 ts cs ds) (gr : W.grownBy W' (some C)) (d : Dr w C a len cap W') : Fg w C R B gn a len cap W0 W' nh nc nd v1 v2 v3 ts cs ds := by
  have cb := h.cb
  have lo := h.k.lo
  exact ⟨h.k.call gr d, h.cb, h.r.apart gr (fun e => by have := Option.some.inj e; omega), h.p.apart gr (fun e => by have := Option.some.inj e; omega), h.n.apart gr (fun e => by have := Option.some.inj e; omega),
    h.o1.far gr (fun g hg e => by have := Option.some.inj e; have := (h.o1.lies g hg).1; omega), h.o2.far gr (fun g hg e => by have := Option.some.inj e; have := (h.o2.lies g hg).1; omega), h.o3.far gr (fun g hg e => by have := Option.some.inj e; have := (h.o3.lies g hg).1; omega), h.f1, h.f2, h.f3⟩
theorem Fg.push1 {w : World} {C R B gn : Nat} {a : Option Addr} {len cap : Nat} {W0 W : World} {nh nc nd : Int} {v1 v2 v3 : Value} {ts : List Ts} {cs : List Cr} {ds : List Df} {W' : World} {g n c : Nat} {ps : List Ts} (h : Fg w C R B gn a len cap W0 W nh nc nd v1 v2 v3 ts cs ds) (o : OwnE 7 tsC W' W0.heap.size 44 (.slice (some ⟨g, 0, none⟩) n c) ps) (gr : W.grownBy W' v1.ownBlock) (hat : v1.ownBlock = some g ∨ W.heap.size < g) :
    Fg w C R B gn a len cap W0 (W'.setCell ⟨B, 0, none⟩ (.slice (some ⟨g, 0, none⟩) n c)) nh nc nd (.slice (some ⟨g, 0, none⟩) n c) v2 v3 ps cs ds := by
  have cb := h.cb
  have lR := h.r.lt
  have lB := h.p.lt
  have lN := h.n.lt
  have gx : g ≠ R ∧ g ≠ B ∧ g ≠ gn := by
    rcases hat with e | e
    · exact h.f1 g e
    · omega
  have nB : ∀ {q : Nat}, v1.ownBlock = some q → q ≠ R ∧ q ≠ B ∧ q ≠ gn := fun e => h.f1 _ e
  have fx : ∀ {q : Nat}, some q = v1.ownBlock → q ≠ R ∧ q ≠ B ∧ q ≠ gn := fun e => h.f1 _ e.symm
  refine ⟨(h.k.row gr (fun q hq => (h.o1.lies q hq).1)).own (grown_set (grown_refl W' (some B)) 0 _) (by omega), cb, (h.r.apart gr (fun e => (fx e).1 rfl)).other (by simp; omega) _, ?_, (h.n.apart gr (fun e => (fx e).2.2 rfl)).other (by simp; omega) _, ?_, ?_, ?_, ?_, ?_, ?_⟩
  · have k := (h.p.apart gr (fun e => (fx e).2.1 rfl)).set 0 (by simp) (.slice (some ⟨g, 0, none⟩) n c)
    simpa using k
  · exact o.set_other _ (fun e => gx.2.1 (Option.some.inj (show some g = some B from e)))
  · exact (h.o2.far gr (fun q hq e => own_neF h.o2 h.o1 (by decide) q hq e.symm)).set_other _ (fun e => (h.f2 B e).2.1 rfl)
  · exact (h.o3.far gr (fun q hq e => own_neF h.o3 h.o1 (by decide) q hq e.symm)).set_other _ (fun e => (h.f3 B e).2.1 rfl)
  · intro q hq; have e : g = q := Option.some.inj hq; subst e; exact gx
  · exact h.f2
  · exact h.f3
theorem Fg.push3 {w : World} {C R B gn : Nat} {a : Option Addr} {len cap : Nat} {W0 W : World} {nh nc nd : Int} {v1 v2 v3 : Value} {ts : List Ts} {cs : List Cr} {ds : List Df} {W' : World} {g n c : Nat} {ps : List Df} (h : Fg w C R B gn a len cap W0 W nh nc nd v1 v2 v3 ts cs ds) (o : OwnE 3 dfC W' W0.heap.size 56 (.slice (some ⟨g, 0, none⟩) n c) ps) (gr : W.grownBy W' v3.ownBlock) (hat : v3.ownBlock = some g ∨ W.heap.size < g) :
    Fg w C R B gn a len cap W0 (W'.setCell ⟨B, 2, none⟩ (.slice (some ⟨g, 0, none⟩) n c)) nh nc nd v1 v2 (.slice (some ⟨g, 0, none⟩) n c) ts cs ps := by
  have cb := h.cb
  have lR := h.r.lt
  have lB := h.p.lt
  have lN := h.n.lt
  have gx : g ≠ R ∧ g ≠ B ∧ g ≠ gn := by
    rcases hat with e | e
    · exact h.f3 g e
    · omega
  have nB : ∀ {q : Nat}, v3.ownBlock = some q → q ≠ R ∧ q ≠ B ∧ q ≠ gn := fun e => h.f3 _ e
  have fx : ∀ {q : Nat}, some q = v3.ownBlock → q ≠ R ∧ q ≠ B ∧ q ≠ gn := fun e => h.f3 _ e.symm
  refine ⟨(h.k.row gr (fun q hq => (h.o3.lies q hq).1)).own (grown_set (grown_refl W' (some B)) 2 _) (by omega), cb, (h.r.apart gr (fun e => (fx e).1 rfl)).other (by simp; omega) _, ?_, (h.n.apart gr (fun e => (fx e).2.2 rfl)).other (by simp; omega) _, ?_, ?_, ?_, ?_, ?_, ?_⟩
  · have k := (h.p.apart gr (fun e => (fx e).2.1 rfl)).set 2 (by simp) (.slice (some ⟨g, 0, none⟩) n c)
    simpa using k
  · exact (h.o1.far gr (fun q hq e => own_neF h.o1 h.o3 (by decide) q hq e.symm)).set_other _ (fun e => (h.f1 B e).2.1 rfl)
  · exact (h.o2.far gr (fun q hq e => own_neF h.o2 h.o3 (by decide) q hq e.symm)).set_other _ (fun e => (h.f2 B e).2.1 rfl)
  · exact o.set_other _ (fun e => gx.2.1 (Option.some.inj (show some g = some B from e)))
  · exact h.f1
  · exact h.f2
  · intro q hq; have e : g = q := Option.some.inj hq; subst e; exact gx

end Go.Proofs.Ytfnnfldfnjnlfag
