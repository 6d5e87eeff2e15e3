/-
  What Both16 answers, of both sides, at every receiver and lists of frames; the words that it makes. No condition.
-/
import Derived.Test.YticdccdkjepifaaBoSpec
import Derived.Test.YticdccdkjepifaaBoImpl
import Derived.Test.YticdccdkjepifaaWxMark
import Derived.Test.YticdccdkjepifaaMBuSumI
import Derived.Test.YticdccdkjepifaaOpenBy
import Derived.Deep.Slices
namespace Go.Proofs.Yticdccdkjepifaa
open Go Go.RowKit Go.Deep

theorem rowSB_sl {w : World} {a : Option Addr} {len : Nat} {zss : List (List Int)} (h : RowSB w a len zss) (hb : ∀ zs ∈ zss, BytesIn zs) : ∃ ss : List Sl, ss.map (·.zs) = zss ∧ RowE 1 slC w a len ss ∧ ∀ s ∈ ss, SlIn w s := by
  have each : ∀ i, i < len → ∃ s : Sl, s.zs = nthS zss i ∧ (∃ b off, a = some ⟨b, off, none⟩ ∧ w.cell? ⟨b, off + i, none⟩ = some (slV s)) ∧ RowE 1 byC w s.a s.n s.zs ∧ s.n ≤ s.c := by
    intro i hi
    obtain ⟨b, off, ai, li, ci, ha, hc, hr, hl⟩ := h.cells i hi
    exact ⟨⟨ai, li, ci, nthS zss i⟩, rfl, ⟨b, off, ha, hc⟩, hr, hl⟩
  obtain ⟨f, hf⟩ := choose_lt each
  have hz := h.len_eq
  have he : ∀ i, i < len → elAt ((List.range len).map f) i = f i := fun i hi => by simp [elAt, hi]
  refine ⟨(List.range len).map f, ?_, ⟨by simp, h.small, fun i hi => ?_⟩, fun s hs => ?_⟩
  · apply List.ext_getElem
    · simp [hz]
    · intro i h1 h2
      have hi : i < len := by simpa using h1
      have := (hf i hi).1
      simp only [List.getElem_map, List.getElem_range]
      rw [this]
      simp [nthS, h2]
  · obtain ⟨_, ⟨b, off, ha, hc⟩, _⟩ := hf i hi
    refine ⟨b, off, ha, fun q hq => ?_⟩
    obtain rfl : q = 0 := by omega
    rw [he i hi]
    simpa [slC] using hc
  · obtain ⟨i, hi, rfl⟩ := List.mem_map.1 hs
    have hi : i < len := by simpa using hi
    obtain ⟨e, _, hr, hl⟩ := hf i hi
    refine ⟨hr, hl, fun j hj => ?_⟩
    have hm : (f i).zs ∈ zss := by
      rw [e]
      have hi2 : i < zss.length := by omega
      simp [nthS, hi2]
    exact hb _ hm j (by have := hr.len_eq; omega)
/-- Words that a call has made, and what they say. -/
structure OwnWT (w : World) (base : Nat) (v : Value) (ws : List Wx) (T : List Wc) : Prop where
  o : OwnWd w base v ws
  con : ws.map wxW = T
theorem OwnWT.below {w w' : World} {base : Nat} {v : Value} {ws : List Wx} {T : List Wc} (h : OwnWT w base v ws T) (k : Below w.heap.size w w') : OwnWT w' base v ws T := ⟨h.o.below k, h.con⟩
theorem OwnWT.lies {w : World} {base : Nat} {v : Value} {ws : List Wx} {T : List Wc} (h : OwnWT w base v ws T) : WxLies base w.heap.size v ws := h.o.lies
theorem OwnWT.only {w w' : World} {base lo hi b u : Nat} {v : Value} {ws : List Wx} {T : List Wc} (h : OwnWT w base v ws T) (k : Only lo hi w w') (hl : WxLies b u v ws) (hs : u ≤ lo ∨ hi ≤ b) : OwnWT w' base v ws T := ⟨h.o.only k hl hs, h.con⟩
/-- What the marks ask of them. -/
structure WxFit (ws : List Wx) (T : List Wc) : Prop where
  len : ws.length = T.length
  few : T.length ≤ 400
  d32 : ∀ i, i < ws.length → (elAt ws i).d.zs.length ≤ 32
  dn : ∀ i, i < ws.length → (elAt ws i).d.zs.length = (elAt ws i).d.n
theorem OwnWT.fit {w : World} {base : Nat} {v : Value} {ws : List Wx} {T : List Wc} (h : OwnWT w base v ws T) (h1 : T.length ≤ 400) (h2 : ∀ x ∈ T, x.zs.length ≤ 32) : WxFit ws T :=
  ⟨by rw [← h.con]; simp, h1, fun i hi => h2 (wxW (elAt ws i)) (by rw [← h.con]; exact List.mem_map.2 ⟨_, elAt_mem hi, rfl⟩), fun i hi => (OwnE.row (a := (elAt ws i).d.a) (len := (elAt ws i).d.n) (cap := (elAt ws i).d.c) (h.o.dat i hi)).len_eq⟩
theorem kA_le {ws : List Wx} {T : List Wc} (h : WxFit ws T) (k0 : Int) : k0 ≤ kA ws k0 T.length ∧ kA ws k0 T.length ≤ k0 + 13600 := by
  have := kA_bd (k0 := k0) h.d32 T.length (by rw [h.len]; exact Nat.le_refl _)
  have := h.few
  omega


theorem implBoth16_any (rl n rk : Int) (xa ya : Option Addr) (xl xc yl yc : Nat) (X Y : List (List Int)) (w : World) (hx : RowSB w xa xl X) (hy : RowSB w ya yl Y) (hbx : ∀ zs ∈ X, BytesIn zs) (hby : ∀ zs ∈ Y, BytesIn zs) :
    Calls Try.prog 15 #[.agg #[.int .i64 rl, .int .i64 n, .int .i64 rk], .slice xa xl xc, .slice ya yl yc] w fun e w' => ∃ g c ws, e = .returned (.tuple #[.slice (some ⟨g, 0, none⟩) (boR rl n rk X Y).t.length c, .int .i64 (boR rl n rk X Y).m, .agg #[.int .i64 rl, .int .i64 (boR rl n rk X Y).n, .int .i64 rk]]) ∧ OwnWT w' w.heap.size (.slice (some ⟨g, 0, none⟩) (boR rl n rk X Y).t.length c) ws (boR rl n rk X Y).t ∧ Below w.heap.size w w' := by
  obtain ⟨xs, rfl, h1, h2⟩ := rowSB_sl hx hbx
  obtain ⟨ys, rfl, h3, h4⟩ := rowSB_sl hy hby
  exact (implBoth16_row rl n rk xa ya xl xc yl yc xs ys w h1 h3 h2 h4).mono fun _ _ ⟨g, c, e, ws, o, k, b⟩ => ⟨g, c, ws, e, ⟨o, k⟩, b⟩

end Go.Proofs.Yticdccdkjepifaa
