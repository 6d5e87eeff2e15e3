/-
  What Events20 answers, in the model and in the program: the rows at which a column comes above a limit. At every list of rows, place and limit; the answer owns its memory, nothing that was there is written.
  Columns and events of a record that is right, in plain numbers; a number looked for in a list. No program here but the law's within.
  The law's at tells one number in every world in which the bytes are as they were. At every list of at most 1048576 bytes.
  Where two records differ first, in plain numbers: what is found. No program here.
-/
import Derived.Test.YtfnnfldfnjnlfahCoIs
import Derived.Test.YtfnnfldfnjnlfahRcDr
import Derived.Test.YtfnnfldfnjnlfahMRowS
import Derived.Test.YtfnnfldfnjnlfahMRrOwn

namespace Go.Proofs.Ytfnnfldfnjnlfah
open Go.RowKit

/-- Whether the row ahead was above. -/
def evW (L : List Int) (m : Int) : Nat → Bool
  | 0 => false
  | k + 1 => decide (m < nth L k)
def evL (zss : List (List Int)) (t m : Int) : List Int := evK (coL zss t) m (coL zss t).length
theorem evL_len (zss : List (List Int)) (t m : Int) : (evL zss t m).length ≤ 200 := Nat.le_trans (evK_len _ _ _) (coL_len zss t)
theorem evI_is (L : List Int) (m : Int) (k : Nat) : evI L m k = (decide (m < nth L k) && !evW L m k) := by
  cases k with
  | zero => simp [evI, evW]
  | succ k =>
    simp only [evI, evW, Nat.add_sub_cancel]
    by_cases h : m < nth L k
    · rw [show decide (nth L k ≤ m) = false by simp; omega]; simp [h]
    · rw [show decide (nth L k ≤ m) = true by simp; omega]; simp [h]
theorem evK_yes {L : List Int} {m : Int} {k : Nat} (h : evI L m k = true) : evK L m (k + 1) = evK L m k ++ [(k : Int)] := by rw [evK_succ, if_pos h]
theorem evK_not {L : List Int} {m : Int} {k : Nat} (h : evI L m k = false) : evK L m (k + 1) = evK L m k := by rw [evK_succ, if_neg (by rw [h]; simp)]
/-- A list made, and one that grows beside it. -/
structure EvAt (w wr : World) (base : Nat) (a : Option Addr) (n c : Nat) (L : List Int) (g k e : Nat) (zs : List Int) : Prop where
  r : Row wr a n L
  d : ∀ b o, a = some ⟨b, o, none⟩ → b < base
  l : LoopAt w wr [] base g k e zs
theorem row_apart {w w' : World} {a : Option Addr} {n : Nat} {L : List Int} {row : Option Nat} (h : Row w a n L) (k : w.grownBy w' row) (hne : ∀ b o, a = some ⟨b, o, none⟩ → some b ≠ row) : Row w' a n L := by
  refine ⟨h.len_eq, h.small, fun i hi => ?_, h.fit⟩
  obtain ⟨b, off, ha, hc⟩ := h.cells i hi
  refine ⟨b, off, ha, ?_⟩
  rw [World.cell?_of_block (a := ⟨b, off + i, none⟩) (k.block b (block_lt_of_cell hc) (hne b off ha))]
  exact hc
theorem EvAt.step {w wr w' : World} {base : Nat} {a : Option Addr} {n c : Nat} {L : List Int} {g k e g' e' : Nat} {zs : List Int} {x : Int} (h : EvAt w wr base a n c L g k e zs) (o : OwnI w' base (.slice (some ⟨g', 0, none⟩) (k + 1) e') (zs ++ [x])) (gr : wr.grownBy w' (Value.slice (some ⟨g, 0, none⟩) k e).ownBlock) : EvAt w w' base a n c L g' (k + 1) e' (zs ++ [x]) :=
  ⟨row_apart h.r gr (fun b o hb e => by have := (h.l.o.lies b e.symm).1; have := h.d b o hb; omega), h.d, h.l.step o gr⟩

end Go.Proofs.Ytfnnfldfnjnlfah

namespace Go.Proofs.Ytfnnfldfnjnlfah
open Go Go.RowKit

theorem nthS_in {z : List (List Int)} {i : Nat} (h : i < z.length) : nthS z i ∈ z := by
  have e : nthS z i = z[i] := by simp [nthS, h]
  rw [e]; exact List.getElem_mem h
theorem nth_in {r : List Int} {k : Nat} (h : k < r.length) : nth r k ∈ r := by
  have e : nth r k = r[k] := by simp [nth, h]
  rw [e]; exact List.getElem_mem h
theorem rcD_ok {z : List (List Int)} (h : RcD z) : rcB z = true := by
  obtain ⟨N, hN, hl, hr⟩ := h
  refine rcB_yes (fun i hi => ?_) (by omega)
  have a := hr _ (nthS_in hi)
  have b := hr _ (nthS_in (z := z) (i := 0) (by omega))
  rw [rwB, a.1, b.1, Bool.and_eq_true, Bool.and_eq_true]
  refine ⟨⟨by simp, by simp [inB]; omega⟩, allB_true (fun j hj => ?_)⟩
  have := a.2 _ (nth_in hj)
  simp [inB]; omega
theorem rcD_wd {z : List (List Int)} (h : RcD z) (h0 : 0 < z.length) : 1 ≤ wdN z ∧ wdN z ≤ 4 := by
  obtain ⟨N, hN, hl, hr⟩ := h
  have b := hr _ (nthS_in (z := z) (i := 0) h0)
  unfold wdN; omega
theorem coB_in {z : List (List Int)} {k : Int} (h : rcB z = true) (h0 : 0 < z.length) (h1 : 0 ≤ k) (h2 : k < wdN z) : coB z k = true := by
  rw [coB, h, show decide (0 < z.length) = true by simpa using h0]; simp [inB]; omega
theorem coB_out {z : List (List Int)} {k : Int} (h2 : (wdN z : Int) ≤ k) : coB z k = false := by
  rw [coB, show inB k 0 ((wdN z : Int) - 1) = false by simp [inB]; omega]; simp
theorem coB_nil {z : List (List Int)} {k : Int} (h : z.length = 0) : coB z k = false := by
  rw [coB, show decide (0 < z.length) = false by simp [h]]; simp
/-- Whether a number is in a list. -/
def memB (L : List Int) (x : Int) : Bool := decide (x ∈ L)
theorem memB_no {L : List Int} {x : Int} (h : ∀ j, j < L.length → nth L j ≠ x) : memB L x = false := by
  simp only [memB, decide_eq_false_iff_not]
  intro hx
  obtain ⟨j, hj, e⟩ := List.getElem_of_mem hx
  exact h j hj (by simp [nth, hj, e])
theorem memB_yes {L : List Int} {x : Int} {j : Nat} (hj : j < L.length) (h : nth L j = x) : memB L x = true := by
  simp only [memB, decide_eq_true_eq]; rw [← h]; exact nth_in hj
theorem evK_mem (L : List Int) (m : Int) {k i : Nat} (h : i < k) : memB (evK L m k) (i : Int) = evI L m i := by
  unfold memB evK
  cases e : evI L m i
  · rw [decide_eq_false_iff_not]
    intro hx
    obtain ⟨j, hj, ej⟩ := List.mem_map.1 hx
    have : j = i := by omega
    subst this
    rw [List.mem_filter, e] at hj
    exact absurd hj.2 (by simp)
  · rw [decide_eq_true_eq]
    exact List.mem_map.2 ⟨i, List.mem_filter.2 ⟨by simpa using h, e⟩, rfl⟩
theorem evK_rise (L : List Int) (m : Int) (k : Nat) {i j : Nat} (hij : i < j) (hj : j < (evK L m k).length) : nth (evK L m k) i < nth (evK L m k) j := by
  have p : (evK L m k).Pairwise (· < ·) := by
    unfold evK
    rw [List.pairwise_map]
    exact (List.pairwise_lt_range.filter _).imp (fun h => by omega)
  have := (List.pairwise_iff_getElem.1 p) i j (by omega) hj hij
  simpa [nth, hj, show i < (evK L m k).length by omega] using this

end Go.Proofs.Ytfnnfldfnjnlfah

namespace Go.Proofs.Ytfnnfldfnjnlfah
open Go.RowKit

end Go.Proofs.Ytfnnfldfnjnlfah

namespace Go.Proofs.Ytfnnfldfnjnlfah

theorem rng_at {p : Nat → Bool} {n k : Nat} (hk : k < n) (h : p k = true) (hb : ∀ j, j < k → p j = false) : (List.range n).find? p = some k := by
  rw [List.find?_range_eq_some]
  exact ⟨h, by simpa using hk, fun j hj => by rw [hb j hj]; rfl⟩
theorem rng_none {p : Nat → Bool} {n : Nat} (hb : ∀ j, j < n → p j = false) : (List.range n).find? p = none := by
  rw [List.find?_eq_none]
  intro j hj
  rw [hb j (by simpa using hj)]; simp
/-- The first unlike column, -1 where there is none. -/
def unR (a b : List Int) : Int := match unF a b with | none => -1 | some k => (k : Int)
theorem unR_at {a b : List Int} {k : Nat} (hk : k < max a.length b.length) (h : unI a b k = true) (hb : ∀ j, j < k → unI a b j = false) : unF a b = some k := rng_at hk h hb
theorem unR_no {a b : List Int} (hb : ∀ j, j < max a.length b.length → unI a b j = false) : unF a b = none := rng_none hb
theorem df_no {A B : List (List Int)} (h : (rcB A && rcB B) = false) : dfR A B = -2 ∧ dfCo A B = -2 ∧ dfO A B = false := by
  simp [dfR, dfCo, dfO, dfBo, h]
theorem df_here {A B : List (List Int)} {i k : Nat} (h : (rcB A && rcB B) = true) (hi : i < max A.length B.length) (hk : unF (nthS A i) (nthS B i) = some k) (hb : ∀ j, j < i → unF (nthS A j) (nthS B j) = none) : dfR A B = i ∧ dfCo A B = k ∧ dfO A B = false := by
  have : dfF A B = some i := rng_at hi (by rw [hk]; rfl) (fun j hj => by rw [hb j hj]; rfl)
  simp [dfR, dfCo, dfO, dfBo, h, this, hk]
theorem df_none {A B : List (List Int)} (h : (rcB A && rcB B) = true) (hb : ∀ j, j < max A.length B.length → unF (nthS A j) (nthS B j) = none) : dfR A B = -1 ∧ dfCo A B = -1 ∧ dfO A B = true := by
  have : dfF A B = none := rng_none (fun j hj => by rw [hb j hj]; rfl)
  simp [dfR, dfCo, dfO, dfBo, h, this]
theorem nthS_out {A : List (List Int)} {i : Nat} (h : A.length ≤ i) : nthS A i = [] := by simp [nthS, h]
/-- A row that one of them lacks differs at its first column. -/
theorem un_lack {A B : List (List Int)} {i : Nat} (h : (rcB A && rcB B) = true) (hi : i < max A.length B.length) (hl : A.length ≤ i ∨ B.length ≤ i) : unF (nthS A i) (nthS B i) = some 0 := by
  rw [Bool.and_eq_true] at h
  have hA := (rcB_facts h.1).2
  have hB := (rcB_facts h.2).2
  rcases hl with hl | hl
  · have hb : i < B.length := by omega
    have := hB i hb
    refine unR_at (by omega) ?_ (fun j hj => by omega)
    rw [nthS_out hl]; simp [unI]
  · have ha : i < A.length := by omega
    have := hA i ha
    refine unR_at (by omega) ?_ (fun j hj => by omega)
    rw [nthS_out hl]; simp [unI]
theorem unI_a {a b : List Int} {k : Nat} (h : a.length ≤ k) : unI a b k = true := by simp [unI, h]
theorem unI_b {a b : List Int} {k : Nat} (h : b.length ≤ k) : unI a b k = true := by simp [unI, h]
theorem unI_n {a b : List Int} {k : Nat} (h : nth a k ≠ nth b k) : unI a b k = true := by simp [unI, h]
theorem unI_f {a b : List Int} {k : Nat} (h1 : k < a.length) (h2 : k < b.length) (h : nth a k = nth b k) : unI a b k = false := by
  simp [unI, h]; omega

end Go.Proofs.Ytfnnfldfnjnlfah
