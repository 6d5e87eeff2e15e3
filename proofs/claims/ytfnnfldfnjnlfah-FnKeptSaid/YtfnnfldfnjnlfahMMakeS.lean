/-
  What the law's copy of a list of lists answers (toIntSS): new memory that reads as the list did, at every list of at most 1048576 lists of at most 1048576 numbers; nothing that was there is written.
  Records in plain numbers: when rows are right, a column, its events, where two records differ. No program here.
  A record's bytes in plain numbers: a change in one byte or four, rows one behind the other; how long they are. No program here.
  What RecordOk answers, in the model and in the program, and wideOf: as the plain test. At every list of rows; nothing that was there is written.
-/
import Derived.Test.YtfnnfldfnjnlfahMRowS
import Derived.Test.YtfnnfldfnjnlfahMCur
import Derived.Test.YtfnnfldfnjnlfahMCkPure
import Derived.Test.YtfnnfldfnjnlfahMMarkText

namespace Go.Proofs.Ytfnnfldfnjnlfah
open Go.RowKit

theorem info_ints : (Try.prog.info? 26).map (fun i => (i.zero, i.size, i.bytes)) = some (some (.slice none 0 0), 1, 24) := by kernel_rfl

/-- A row of rows in new memory: the row of slices in block B, the numbers of each in a block behind it. -/
structure RowN (w : World) (B len : Nat) (zss : List (List Int)) : Prop where
  len_eq : zss.length = len
  small : len ≤ 9223372036854775807
  cells : ∀ i, i < len → ∃ g n, B < g ∧ w.cell? ⟨B, i, none⟩ = some (.slice (some ⟨g, 0, none⟩) n n) ∧ Row w (some ⟨g, 0, none⟩) n (nthS zss i)

theorem RowN.rowS {w : World} {B len : Nat} {zss : List (List Int)} (h : RowN w B len zss) : RowS w (some ⟨B, 0, none⟩) len zss := by
  refine ⟨h.len_eq, h.small, fun i hi => ?_⟩
  obtain ⟨g, n, _, hc, hr⟩ := h.cells i hi
  exact ⟨B, 0, _, n, n, rfl, by rw [Nat.zero_add]; exact hc, hr, Nat.le_refl _⟩
theorem RowN.below {w w' : World} {B len : Nat} {zss : List (List Int)} (h : RowN w B len zss) (k : Below w.heap.size w w') : RowN w' B len zss := by
  refine ⟨h.len_eq, h.small, fun i hi => ?_⟩
  obtain ⟨g, n, hg, hc, hr⟩ := h.cells i hi
  exact ⟨g, n, hg, (k.cell (block_lt_of_cell hc)).trans hc, hr.below k⟩
theorem RowN.setCell {w : World} {B len : Nat} {zss : List (List Int)} (h : RowN w B len zss) {p : Addr} (hp : p.block < B) (v : Value) : RowN (w.setCell p v) B len zss := by
  refine ⟨h.len_eq, h.small, fun i hi => ?_⟩
  obtain ⟨g, n, hg, hc, hr⟩ := h.cells i hi
  exact ⟨g, n, hg, (World.cell?_setCell_other w _ _ _ (by intro e; rw [e] at hp; exact absurd hp (Nat.lt_irrefl _))).trans hc, hr.setCell (by omega) v⟩

/-- After k rounds of the copying of lists; the new row lies in block B. -/
structure CopiedS (w wr : World) (B : Nat) (zss : List (List Int)) (k : Nat) : Prop where
  own : ∃ xs : List Value, wr.ownsRow B 26 1 (.slice (some ⟨B, 0, none⟩) zss.length zss.length) zss.length xs ∧ ∀ j, j < k → ∃ g, B < g ∧ xs[j]? = some (.slice (some ⟨g, 0, none⟩) (nthS zss j).length (nthS zss j).length) ∧ Row wr (some ⟨g, 0, none⟩) (nthS zss j).length (nthS zss j)
  bel : Below w.heap.size w wr
  here : B < wr.heap.size
  old : w.heap.size ≤ B

theorem CopiedS.here_ {w wr : World} {B : Nat} {zss : List (List Int)} {k : Nat} (h : CopiedS w wr B zss k) (hk : k < zss.length) :
    (∃ v, wr.cell? ⟨B, k, none⟩ = some v) ∧ wr.frozen? ⟨B, k, none⟩ = false := by
  obtain ⟨xs, ho, _⟩ := h.own
  refine ⟨?_, ho.frozenAt k⟩
  rw [ho.cellAt k (by omega)]
  have := ho.1
  exact ⟨xs[k]'(by omega), List.getElem?_eq_getElem (by omega)⟩

/-- A call that makes memory leaves it so. -/
theorem CopiedS.call {w wr w' : World} {B : Nat} {zss : List (List Int)} {k : Nat} (h : CopiedS w wr B zss k) (b : Below wr.heap.size wr w') : CopiedS w w' B zss k := by
  obtain ⟨xs, ho, hx⟩ := h.own
  refine ⟨⟨xs, ownsRow_below ho b, fun j hj => ?_⟩, h.bel.trans (b.mono h.bel.size), Nat.lt_of_lt_of_le h.here b.size, h.old⟩
  obtain ⟨g, hg, e, r⟩ := hx j hj
  exact ⟨g, hg, e, r.below b⟩

theorem CopiedS.step {w wr : World} {B : Nat} {zss : List (List Int)} {k g : Nat} (h : CopiedS w wr B zss k) (hk : k < zss.length) (hg : B < g) (hr : Row wr (some ⟨g, 0, none⟩) (nthS zss k).length (nthS zss k)) :
    CopiedS w (wr.setCell ⟨B, k, none⟩ (.slice (some ⟨g, 0, none⟩) (nthS zss k).length (nthS zss k).length)) B zss (k + 1) := by
  obtain ⟨xs, ho, hx⟩ := h.own
  refine ⟨⟨_, (ho.stored k _).1, fun j hj => ?_⟩, h.bel.setCell h.old _, by have := h.here; simpa [World.setCell] using this, h.old⟩
  have hl := ho.1
  by_cases e : j = k
  · subst e
    exact ⟨g, hg, by rw [List.getElem?_set_self (by omega)], hr.setCell (by simp; omega) _⟩
  · obtain ⟨g', hg', e', r'⟩ := hx j (by omega)
    exact ⟨g', hg', by rw [List.getElem?_set_ne (by omega)]; exact e', r'.setCell (by simp; omega) _⟩

theorem CopiedS.row {w wr : World} {B : Nat} {zss : List (List Int)} (h : CopiedS w wr B zss zss.length) (hs : zss.length ≤ 1048576) :
    RowN wr B zss.length zss := by
  obtain ⟨xs, ho, hx⟩ := h.own
  refine ⟨rfl, by omega, fun i hi => ?_⟩
  obtain ⟨g, hg, e, r⟩ := hx i hi
  refine ⟨g, _, hg, ?_, r⟩
  rw [ho.cellAt i (by omega), e]

end Go.Proofs.Ytfnnfldfnjnlfah

namespace Go.Proofs.Ytfnnfldfnjnlfah

/-- A row is as wide as the first, of 1 to 8 values, each in its bounds. -/
def rwB (zss : List (List Int)) (i : Nat) : Bool := (((nthS zss i).length : Int) == ((nthS zss 0).length : Int)) && inB (nthS zss i).length 1 8 && allB (nthS zss i) (-30000) 30000
def rcAa (zss : List (List Int)) : Bool := decide (∀ i, i < zss.length → rwB zss i = true)
def rcB (zss : List (List Int)) : Bool := rcAa zss && decide (zss.length ≤ 200)
theorem rcA_true {zss : List (List Int)} (h : ∀ i, i < zss.length → rwB zss i = true) : rcAa zss = true := by simp only [rcAa, decide_eq_true_eq]; exact h
theorem rcB_no {zss : List (List Int)} {j : Nat} (hj : j < zss.length) (h : rwB zss j = false) : rcB zss = false := by
  have : rcAa zss = false := by simp only [rcAa, decide_eq_false_iff_not]; intro k; have := k j hj; rw [h] at this; cases this
  rw [rcB, this]; rfl
theorem rcB_long {zss : List (List Int)} (h : ¬ zss.length ≤ 200) : rcB zss = false := by
  rw [rcB, show decide (zss.length ≤ 200) = false by simpa using h, Bool.and_false]
theorem rcB_yes {zss : List (List Int)} (h : ∀ i, i < zss.length → rwB zss i = true) (hl : zss.length ≤ 200) : rcB zss = true := by
  rw [rcB, rcA_true h, show decide (zss.length ≤ 200) = true by simpa using hl]; rfl
theorem rcB_facts {zss : List (List Int)} (h : rcB zss = true) : zss.length ≤ 200 ∧ ∀ i, i < zss.length → (nthS zss i).length = (nthS zss 0).length ∧ 1 ≤ (nthS zss i).length ∧ (nthS zss i).length ≤ 8 ∧ ∀ k, k < (nthS zss i).length → -30000 ≤ nth (nthS zss i) k ∧ nth (nthS zss i) k ≤ 30000 := by
  rw [rcB, Bool.and_eq_true, rcAa, decide_eq_true_eq, decide_eq_true_eq] at h
  refine ⟨h.2, fun i hi => ?_⟩
  have := h.1 i hi
  rw [rwB, Bool.and_eq_true, Bool.and_eq_true] at this
  obtain ⟨⟨h1, h2⟩, h3⟩ := this
  simp only [inB, decide_eq_true_eq] at h2
  simp only [beq_iff_eq] at h1
  simp only [allB, decide_eq_true_eq, inB] at h3
  exact ⟨by omega, by omega, by omega, fun k hk => by have := h3 k hk; omega⟩
/-- How wide rows are. -/
def wdN (zss : List (List Int)) : Nat := (nthS zss 0).length
theorem wdN_nil {zss : List (List Int)} (h : zss.length = 0) : wdN zss = 0 := by
  have : zss = [] := List.length_eq_zero_iff.1 h
  subst this; rfl

/-! A column. -/
def coB (zss : List (List Int)) (a : Int) : Bool := rcB zss && (decide (0 < zss.length) && inB a 0 ((wdN zss : Int) - 1))
def coK (zss : List (List Int)) (a : Int) (k : Nat) : List Int := (List.range k).map fun i => nth (nthS zss i) a.toNat
def coL (zss : List (List Int)) (a : Int) : List Int := if coB zss a = true then coK zss a zss.length else []
theorem coK_len (zss : List (List Int)) (a : Int) (k : Nat) : (coK zss a k).length = k := by simp [coK]
theorem coK_succ (zss : List (List Int)) (a : Int) (k : Nat) : coK zss a (k + 1) = coK zss a k ++ [nth (nthS zss k) a.toNat] := by simp [coK, List.range_succ]
theorem coK_at (zss : List (List Int)) (a : Int) {k i : Nat} (h : i < k) : nth (coK zss a k) i = nth (nthS zss i) a.toNat := by simp [nth, coK, h]
theorem coL_len (zss : List (List Int)) (a : Int) : (coL zss a).length ≤ 200 := by
  unfold coL
  split
  · rename_i h; rw [coK_len]; rw [coB, Bool.and_eq_true] at h; exact (rcB_facts h.1).1
  · simp
theorem coB_facts {zss : List (List Int)} {a : Int} (h : coB zss a = true) : rcB zss = true ∧ 0 < zss.length ∧ 0 ≤ a ∧ a < wdN zss := by
  rw [coB, Bool.and_eq_true, Bool.and_eq_true, decide_eq_true_eq] at h
  have := h.2.2
  simp only [inB, decide_eq_true_eq] at this
  exact ⟨h.1, h.2.1, by omega, by omega⟩
theorem coL_in (zss : List (List Int)) (a : Int) : ∀ i, i < (coL zss a).length → -30000 ≤ nth (coL zss a) i ∧ nth (coL zss a) i ≤ 30000 := by
  unfold coL
  split
  · rename_i h
    intro i hi
    rw [coK_len] at hi
    rw [coK_at _ _ hi]
    have f := coB_facts h
    have g := (rcB_facts f.1).2 i hi
    exact g.2.2.2 _ (by have := g.1; unfold wdN at f; omega)
  · intro i hi; simp at hi

/-! Its events. -/
def evI (L : List Int) (m : Int) (i : Nat) : Bool := decide (m < nth L i) && (decide (i = 0) || decide (nth L (i - 1) ≤ m))
def evK (L : List Int) (m : Int) (k : Nat) : List Int := ((List.range k).filter (evI L m)).map fun (i : Nat) => (i : Int)
theorem evK_succ (L : List Int) (m : Int) (k : Nat) : evK L m (k + 1) = if evI L m k = true then evK L m k ++ [(k : Int)] else evK L m k := by
  unfold evK
  rw [List.range_succ, List.filter_append, List.map_append]
  by_cases h : evI L m k = true <;> simp [h]
theorem evK_len (L : List Int) (m : Int) (k : Nat) : (evK L m k).length ≤ k := by
  unfold evK
  rw [List.length_map]
  exact Nat.le_trans (List.length_filter_le _ _) (by simp)

/-! Where two records differ. -/
def unI (a b : List Int) (k : Nat) : Bool := decide (a.length ≤ k) || decide (b.length ≤ k) || decide (nth a k ≠ nth b k)
def unF (a b : List Int) : Option Nat := (List.range (max a.length b.length)).find? (unI a b)
def dfBo (A B : List (List Int)) : Bool := rcB A && rcB B
def dfF (A B : List (List Int)) : Option Nat := (List.range (max A.length B.length)).find? fun i => (unF (nthS A i) (nthS B i)).isSome
def dfR (A B : List (List Int)) : Int := if dfBo A B = false then -2 else match dfF A B with | none => -1 | some i => i
def dfCo (A B : List (List Int)) : Int := if dfBo A B = false then -2 else match dfF A B with | none => -1 | some i => ((unF (nthS A i) (nthS B i)).getD 0 : Nat)
def dfO (A B : List (List Int)) : Bool := if dfBo A B = false then false else (dfF A B).isNone

end Go.Proofs.Ytfnnfldfnjnlfah

namespace Go.Proofs.Ytfnnfldfnjnlfah

def chL (c : Int) : List Int := if inB c (-100) 100 = true then [c + 100] else [255, (c + 60000) / 65536, (c + 60000) / 256 % 256, (c + 60000) % 256]
theorem chL_y {c : Int} (h : inB c (-100) 100 = true) : chL c = [c + 100] := by rw [chL, if_pos h]
theorem chL_n {c : Int} (h : inB c (-100) 100 = false) : chL c = [255, (c + 60000) / 65536, (c + 60000) / 256 % 256, (c + 60000) % 256] := by rw [chL, if_neg (by rw [h]; simp)]
theorem chL_len (c : Int) : 1 ≤ (chL c).length ∧ (chL c).length ≤ 4 := by unfold chL; split <;> simp
/-- The row ahead; its value in a column. -/
def ahL (zss : List (List Int)) : Nat → List Int
  | 0 => List.replicate (wdN zss) 0
  | i + 1 => nthS zss i
def chC (zss : List (List Int)) (i k : Nat) : Int := nth (nthS zss i) k - nth (ahL zss i) k
theorem ahL_len {zss : List (List Int)} (h : rcB zss = true) {i : Nat} (hi : i < zss.length) : (ahL zss i).length = wdN zss := by
  cases i with
  | zero => simp [ahL]
  | succ j => exact ((rcB_facts h).2 j (by omega)).1
theorem ahL_in {zss : List (List Int)} (h : rcB zss = true) {i k : Nat} (hi : i < zss.length) (hk : k < wdN zss) : -30000 ≤ nth (ahL zss i) k ∧ nth (ahL zss i) k ≤ 30000 := by
  cases i with
  | zero => simp [ahL, nth, hk]
  | succ j => have := (rcB_facts h).2 j (by omega); exact this.2.2.2 k (by rw [this.1]; exact hk)
theorem row_in {zss : List (List Int)} (h : rcB zss = true) {i k : Nat} (hi : i < zss.length) (hk : k < wdN zss) : -30000 ≤ nth (nthS zss i) k ∧ nth (nthS zss i) k ≤ 30000 := by
  have := (rcB_facts h).2 i hi; exact this.2.2.2 k (by rw [this.1]; exact hk)
theorem chC_in {zss : List (List Int)} (h : rcB zss = true) {i k : Nat} (hi : i < zss.length) (hk : k < wdN zss) : -60000 ≤ chC zss i k ∧ chC zss i k ≤ 60000 := by
  have a := ahL_in h hi hk; have b := row_in h hi hk; unfold chC; omega
theorem wdN_le {zss : List (List Int)} (h : rcB zss = true) : wdN zss ≤ 8 := by
  by_cases h0 : zss.length = 0
  · rw [wdN_nil h0]; omega
  · exact ((rcB_facts h).2 0 (by omega)).2.2.1
def pkJ (zss : List (List Int)) (i : Nat) : Nat → List Int
  | 0 => []
  | k + 1 => pkJ zss i k ++ chL (chC zss i k)
def pkI (zss : List (List Int)) : Nat → List Int
  | 0 => [(wdN zss : Int), (zss.length : Int)]
  | i + 1 => pkI zss i ++ pkJ zss i (wdN zss)
def pkK (zss : List (List Int)) (i k : Nat) : List Int := pkI zss i ++ pkJ zss i k
def pkF (zss : List (List Int)) : List Int := pkI zss zss.length
def pkB (zss : List (List Int)) : Bool := rcB zss && decide ((pkF zss).length ≤ 1500)
def pkL (zss : List (List Int)) : List Int := if pkB zss = true then pkF zss else []
theorem pkK_zero (zss : List (List Int)) (i : Nat) : pkK zss i 0 = pkI zss i := by simp [pkK, pkJ]
theorem pkK_succ (zss : List (List Int)) (i k : Nat) : pkK zss i (k + 1) = pkK zss i k ++ chL (chC zss i k) := by simp [pkK, pkJ]
theorem pkK_row (zss : List (List Int)) (i : Nat) : pkK zss i (wdN zss) = pkI zss (i + 1) := rfl
theorem pkJ_len (zss : List (List Int)) (i : Nat) : ∀ k, (pkJ zss i k).length ≤ 4 * k
  | 0 => by simp [pkJ]
  | k + 1 => by have := pkJ_len zss i k; have := chL_len (chC zss i k); rw [pkJ, List.length_append]; omega
theorem pkI_len {zss : List (List Int)} (h : wdN zss ≤ 8) : ∀ i, (pkI zss i).length ≤ 2 + 32 * i
  | 0 => by simp [pkI]
  | i + 1 => by have := pkI_len h i; have := pkJ_len zss i (wdN zss); rw [pkI, List.length_append]; omega
theorem pkK_len {zss : List (List Int)} (h : rcB zss = true) {i k : Nat} (hi : i ≤ zss.length) (hk : k ≤ wdN zss) : (pkK zss i k).length ≤ 7000 := by
  have a := pkI_len (wdN_le h) i; have b := pkJ_len zss i k; have c := wdN_le h; have d := (rcB_facts h).1
  rw [pkK, List.length_append]; omega
theorem pkJ_mono (zss : List (List Int)) (i : Nat) {k : Nat} : ∀ {n : Nat}, k ≤ n → (pkJ zss i k).length ≤ (pkJ zss i n).length
  | 0, h => by have : k = 0 := by omega
               subst this; omega
  | n + 1, h => by
    by_cases e : k = n + 1
    · subst e; omega
    · have := pkJ_mono zss i (k := k) (n := n) (by omega); rw [pkJ, List.length_append]; omega
theorem pkI_mono (zss : List (List Int)) {i : Nat} : ∀ {n : Nat}, i ≤ n → (pkI zss i).length ≤ (pkI zss n).length
  | 0, h => by have : i = 0 := by omega
               subst this; omega
  | n + 1, h => by
    by_cases e : i = n + 1
    · subst e; omega
    · have := pkI_mono zss (i := i) (n := n) (by omega); rw [pkI, List.length_append]; omega
theorem pkK_mono (zss : List (List Int)) {i k : Nat} (hi : i < zss.length) (hk : k ≤ wdN zss) : (pkK zss i k).length ≤ (pkF zss).length := by
  have a := pkJ_mono zss i hk
  have b := pkI_mono zss (i := i + 1) (n := zss.length) (by omega)
  rw [pkI, List.length_append] at b
  rw [pkK, List.length_append, pkF]; omega
theorem pkL_no {zss : List (List Int)} (h : pkB zss = false) : pkL zss = [] := by rw [pkL, if_neg (by rw [h]; simp)]
theorem pkL_yes {zss : List (List Int)} (h : pkB zss = true) : pkL zss = pkF zss := by rw [pkL, if_pos h]
theorem pkL_len (zss : List (List Int)) : (pkL zss).length ≤ 1500 := by
  unfold pkL
  split
  · rename_i h; rw [pkB, Bool.and_eq_true, decide_eq_true_eq] at h; exact h.2
  · simp

end Go.Proofs.Ytfnnfldfnjnlfah

namespace Go.Proofs.Ytfnnfldfnjnlfah
open Go.RowKit

theorem rcAll_s {r : Bool} (ad : Option Addr) (len cap : Nat) (zs : List Int) (a b : Int) (w : World) (hr : Row w ad len zs) (hc : allB zs a b = r) :
    Calls Try.prog 40 #[.slice ad len cap, .int .i64 a, .int .i64 b] w fun e w' => e = .returned (.bool r) ∧ ∃ n, w' = w.drewN n := by rw [← hc]; exact l1All_any ad len cap zs a b w hr
theorem rcAll_i {r : Bool} (ad : Option Addr) (len cap : Nat) (zs : List Int) (a b : Int) (w : World) (hr : Row w ad len zs) (hc : allB zs a b = r) :
    Calls Try.prog 43 #[.slice ad len cap, .int .i64 a, .int .i64 b] w fun e w' => e = .returned (.bool r) ∧ ∃ n, w' = w.drewN n := by rw [← hc]; exact allWithin_any ad len cap zs a b w hr
set_option maxHeartbeats 400000 in
theorem wideOf_any (ad : Option Addr) (len cap : Nat) (zss : List (List Int)) (w : World) (hr : RowS w ad len zss) :
    Calls Try.prog 58 #[.slice ad len cap] w fun e w' => e = .returned (.int .i64 (wdN zss)) ∧ w' = w := by
  have hz := hr.len_eq
  have hs := hr.small
  have ho := hr.open_
  clear hr
  subst hz
  rcases ho with ⟨h0, _⟩ | ⟨bb, off, rfl, h0, hc⟩
  · have HE := hide (wdN_nil h0)
    have h1 : ((zss.length : Int) == 0) = true := by rw [h0]; rfl
    rw [unhide HE]
    go_enter Try.func58, Try.ntmps58
    go_wp2
    go_ret
    exact ⟨rfl, rfl⟩
  · obtain ⟨ai, li, ci, c0, r0, _⟩ := hc 0 h0
    have HE : Hid (wdN zss = li) := hide r0.len_eq
    have h1 : ((zss.length : Int) == 0) = false := by rw [beq_eq_false_iff_ne]; omega
    have h2 : (0 : Int) < (zss.length : Int) := by omega
    rw [unhide HE]
    clear hc r0
    rw [Nat.add_zero] at c0
    go_enter Try.func58, Try.ntmps58
    go_wp2
    go_ret
    exact ⟨rfl, rfl⟩
theorem wideOf_is {n : Nat} (ad : Option Addr) (len cap : Nat) (zss : List (List Int)) (w : World) (hr : RowS w ad len zss) (hn : wdN zss = n) :
    Calls Try.prog 58 #[.slice ad len cap] w fun e w' => e = .returned (.int .i64 (n : Int)) ∧ w' = w := by
  subst hn; exact wideOf_any ad len cap zss w hr
set_option maxRecDepth 20000 in
set_option maxHeartbeats 2000000 in
theorem implRecordOk_any (ad : Option Addr) (len cap : Nat) (zss : List (List Int)) (w : World) (hr : RowS w ad len zss) :
    Calls Try.prog 27 #[.slice ad len cap] w fun e w' => e = .returned (.bool (rcB zss)) ∧ Below w.heap.size w w' := by
  have hz := hr.len_eq
  have hs := hr.small
  have HR := hide hr
  clear hr
  subst hz
  by_cases hbig : (200 : Int) < (zss.length : Int)
  · have HE : Hid (rcB zss = false) := hide (rcB_long (by omega))
    rw [unhide HE]
    go_enter Try.func27, Try.ntmps27
    go_wp2_with fail
    go_ret
    exact ⟨rfl, Below.refl _ _⟩
  have hbig2 : zss.length ≤ 200 := by omega
  go_enter Try.func27, Try.ntmps27
  go_wp2_with fail
  go_loopw [10] (fun i wr => ∃ k : Nat, k ≤ zss.length ∧ i = .int .i64 k ∧ Hid (∀ j, j < k → rwB zss j = true) ∧ Below w.heap.size w wr) (fun i _ => zss.length - (intOf i).toNat)
  case atStart => exact ⟨0, Nat.zero_le _, rfl, (fun j hj => by omega), Below.refl _ _⟩
  case round =>
    obtain ⟨k, hk, rfl, hall, hbel⟩ := hrel
    have BW := hide hbel
    have HRr := hide ((unhide HR).below hbel)
    clear hbel
    by_cases hlt : k < zss.length
    · obtain ⟨ι, fW, _, hcb, hcl⟩ := belClass wr
      have HB := hide hcb
      have HA := hide hcl
      rcases (unhide HRr).open_ with ⟨h0, _⟩ | ⟨bb, off, rfl, _, hc⟩
      · omega
      obtain ⟨ai, li, ci, ck, rk, _⟩ := hc k hlt
      obtain ⟨a0, l0, c0, cz, r0, _⟩ := hc 0 (by omega)
      rw [Nat.add_zero] at cz
      have x1 : ∀ x, (fW x).cell? ⟨bb, off + k, none⟩ = some (.slice ai li ci) := fun x => ((hcb x).cell (block_lt_of_cell ck)).trans ck
      have x0 : ∀ x, (fW x).cell? ⟨bb, off, none⟩ = some (.slice a0 l0 c0) := fun x => ((hcb x).cell (block_lt_of_cell cz)).trans cz
      have HK : Hid (∀ x, Row (fW x) ai li (nthS zss k)) := hide (fun x => rk.below (hcb x))
      have HW : Hid (∀ x, RowS (fW x) (some ⟨bb, off, none⟩) zss.length zss) := hide (fun x => (unhide HRr).below (hcb x))
      have HWD : Hid (wdN zss = l0) := hide r0.len_eq
      have hE : rwB zss k = (((li : Int) == (l0 : Int)) && inB li 1 8 && allB (nthS zss k) (-30000) 30000) := by unfold rwB; rw [rk.len_eq, r0.len_eq]
      have hi0 : (0 : Int) ≤ (k : Int) := by omega
      have hi1 : (k : Int) < (zss.length : Int) := by omega
      have hi2 : (0 : Int) < (zss.length : Int) := by omega
      obtain ⟨y0, h0⟩ := hcl wr (Below.refl _ _)
      rw [h0]
      clear hc rk r0 ck cz hcb hcl h0
      rcases three ((li : Int) == (l0 : Int)) (inB li 1 8) (allB (nthS zss k) (-30000) 30000) with ⟨q1, hv⟩ | ⟨q1, q2, hv⟩ | ⟨q1, q2, q3, hv⟩ | ⟨q1, q2, q3, hv⟩
      · have HV := hide (hE.trans hv)
        have n1 : ((li : Int) != (l0 : Int)) = true := by rw [bne, q1]; rfl
        clear hE hv q1
        go_wp2_with (first | (go_at_call 59; refine (belS (within_is _ _ _ _ (by assumption))).mono ?_; rintro e _ ⟨rfl, y, rfl⟩) | (go_at_call 43; refine (belN (unhide HB) (unhide HA) (rcAll_i _ _ _ (nthS zss k) _ _ _ ((unhide HK) _) (by assumption))).mono ?_; rintro e _ ⟨rfl, y, rfl⟩) | (go_at_call 58; refine (belS (wideOf_is _ _ _ zss _ ((unhide HW) _) (unhide HWD))).mono ?_; rintro e _ ⟨rfl, y, rfl⟩))
        repeat (refine wp_region_bel (fun w' h => (unhide HA) w' ((unhide HB _).trans (h.mono (unhide HB _).size))) (by kernel_rfl) (by kernel_rfl) ?_; (repeat (go_big_quiet_step (first | (go_at_call 59; exact belS (within_is _ _ _ _ (by assumption))) | (go_at_call 43; exact belN (unhide HB) (unhide HA) (rcAll_i _ _ _ (nthS zss k) _ _ _ ((unhide HK) _) (by assumption))) | (go_at_call 58; exact belS (wideOf_is _ _ _ zss _ ((unhide HW) _) (unhide HWD)))))); refine wpQuiet_nil ?_; rintro _ ⟨y, rfl⟩; (first | go_wp2_with (first | (go_at_call 59; refine (belS (within_is _ _ _ _ (by assumption))).mono ?_; rintro e _ ⟨rfl, y, rfl⟩) | (go_at_call 43; refine (belN (unhide HB) (unhide HA) (rcAll_i _ _ _ (nthS zss k) _ _ _ ((unhide HK) _) (by assumption))).mono ?_; rintro e _ ⟨rfl, y, rfl⟩) | (go_at_call 58; refine (belS (wideOf_is _ _ _ zss _ ((unhide HW) _) (unhide HWD))).mono ?_; rintro e _ ⟨rfl, y, rfl⟩)) | go_wp2))
        go_ret
        exact ⟨ret_bool (rcB_no hlt (unhide HV)).symm, (unhide BW).trans ((unhide HB _).mono (unhide BW).size)⟩
      · have HV := hide (hE.trans hv)
        have n1 : ((li : Int) != (l0 : Int)) = false := by rw [bne, q1]; rfl
        clear hE hv q1
        go_wp2_with (first | (go_at_call 59; refine (belS (within_is _ _ _ _ (by assumption))).mono ?_; rintro e _ ⟨rfl, y, rfl⟩) | (go_at_call 43; refine (belN (unhide HB) (unhide HA) (rcAll_i _ _ _ (nthS zss k) _ _ _ ((unhide HK) _) (by assumption))).mono ?_; rintro e _ ⟨rfl, y, rfl⟩) | (go_at_call 58; refine (belS (wideOf_is _ _ _ zss _ ((unhide HW) _) (unhide HWD))).mono ?_; rintro e _ ⟨rfl, y, rfl⟩))
        repeat (refine wp_region_bel (fun w' h => (unhide HA) w' ((unhide HB _).trans (h.mono (unhide HB _).size))) (by kernel_rfl) (by kernel_rfl) ?_; (repeat (go_big_quiet_step (first | (go_at_call 59; exact belS (within_is _ _ _ _ (by assumption))) | (go_at_call 43; exact belN (unhide HB) (unhide HA) (rcAll_i _ _ _ (nthS zss k) _ _ _ ((unhide HK) _) (by assumption))) | (go_at_call 58; exact belS (wideOf_is _ _ _ zss _ ((unhide HW) _) (unhide HWD)))))); refine wpQuiet_nil ?_; rintro _ ⟨y, rfl⟩; (first | go_wp2_with (first | (go_at_call 59; refine (belS (within_is _ _ _ _ (by assumption))).mono ?_; rintro e _ ⟨rfl, y, rfl⟩) | (go_at_call 43; refine (belN (unhide HB) (unhide HA) (rcAll_i _ _ _ (nthS zss k) _ _ _ ((unhide HK) _) (by assumption))).mono ?_; rintro e _ ⟨rfl, y, rfl⟩) | (go_at_call 58; refine (belS (wideOf_is _ _ _ zss _ ((unhide HW) _) (unhide HWD))).mono ?_; rintro e _ ⟨rfl, y, rfl⟩)) | go_wp2))
        go_ret
        exact ⟨ret_bool (rcB_no hlt (unhide HV)).symm, (unhide BW).trans ((unhide HB _).mono (unhide BW).size)⟩
      · have HV := hide (hE.trans hv)
        have n1 : ((li : Int) != (l0 : Int)) = false := by rw [bne, q1]; rfl
        clear hE hv q1
        go_wp2_with (first | (go_at_call 59; refine (belS (within_is _ _ _ _ (by assumption))).mono ?_; rintro e _ ⟨rfl, y, rfl⟩) | (go_at_call 43; refine (belN (unhide HB) (unhide HA) (rcAll_i _ _ _ (nthS zss k) _ _ _ ((unhide HK) _) (by assumption))).mono ?_; rintro e _ ⟨rfl, y, rfl⟩) | (go_at_call 58; refine (belS (wideOf_is _ _ _ zss _ ((unhide HW) _) (unhide HWD))).mono ?_; rintro e _ ⟨rfl, y, rfl⟩))
        repeat (refine wp_region_bel (fun w' h => (unhide HA) w' ((unhide HB _).trans (h.mono (unhide HB _).size))) (by kernel_rfl) (by kernel_rfl) ?_; (repeat (go_big_quiet_step (first | (go_at_call 59; exact belS (within_is _ _ _ _ (by assumption))) | (go_at_call 43; exact belN (unhide HB) (unhide HA) (rcAll_i _ _ _ (nthS zss k) _ _ _ ((unhide HK) _) (by assumption))) | (go_at_call 58; exact belS (wideOf_is _ _ _ zss _ ((unhide HW) _) (unhide HWD)))))); refine wpQuiet_nil ?_; rintro _ ⟨y, rfl⟩; (first | go_wp2_with (first | (go_at_call 59; refine (belS (within_is _ _ _ _ (by assumption))).mono ?_; rintro e _ ⟨rfl, y, rfl⟩) | (go_at_call 43; refine (belN (unhide HB) (unhide HA) (rcAll_i _ _ _ (nthS zss k) _ _ _ ((unhide HK) _) (by assumption))).mono ?_; rintro e _ ⟨rfl, y, rfl⟩) | (go_at_call 58; refine (belS (wideOf_is _ _ _ zss _ ((unhide HW) _) (unhide HWD))).mono ?_; rintro e _ ⟨rfl, y, rfl⟩)) | go_wp2))
        go_ret
        exact ⟨ret_bool (rcB_no hlt (unhide HV)).symm, (unhide BW).trans ((unhide HB _).mono (unhide BW).size)⟩
      · have HV := hide (hE.trans hv)
        have n1 : ((li : Int) != (l0 : Int)) = false := by rw [bne, q1]; rfl
        clear hE hv q1
        go_wp2_with (first | (go_at_call 59; refine (belS (within_is _ _ _ _ (by assumption))).mono ?_; rintro e _ ⟨rfl, y, rfl⟩) | (go_at_call 43; refine (belN (unhide HB) (unhide HA) (rcAll_i _ _ _ (nthS zss k) _ _ _ ((unhide HK) _) (by assumption))).mono ?_; rintro e _ ⟨rfl, y, rfl⟩) | (go_at_call 58; refine (belS (wideOf_is _ _ _ zss _ ((unhide HW) _) (unhide HWD))).mono ?_; rintro e _ ⟨rfl, y, rfl⟩))
        repeat (refine wp_region_bel (fun w' h => (unhide HA) w' ((unhide HB _).trans (h.mono (unhide HB _).size))) (by kernel_rfl) (by kernel_rfl) ?_; (repeat (go_big_quiet_step (first | (go_at_call 59; exact belS (within_is _ _ _ _ (by assumption))) | (go_at_call 43; exact belN (unhide HB) (unhide HA) (rcAll_i _ _ _ (nthS zss k) _ _ _ ((unhide HK) _) (by assumption))) | (go_at_call 58; exact belS (wideOf_is _ _ _ zss _ ((unhide HW) _) (unhide HWD)))))); refine wpQuiet_nil ?_; rintro _ ⟨y, rfl⟩; (first | go_wp2_with (first | (go_at_call 59; refine (belS (within_is _ _ _ _ (by assumption))).mono ?_; rintro e _ ⟨rfl, y, rfl⟩) | (go_at_call 43; refine (belN (unhide HB) (unhide HA) (rcAll_i _ _ _ (nthS zss k) _ _ _ ((unhide HK) _) (by assumption))).mono ?_; rintro e _ ⟨rfl, y, rfl⟩) | (go_at_call 58; refine (belS (wideOf_is _ _ _ zss _ ((unhide HW) _) (unhide HWD))).mono ?_; rintro e _ ⟨rfl, y, rfl⟩)) | go_wp2))
        go_roundw
        case rel => exact ⟨k + 1, by omega, by go_num, (fun j hj => by rcases Nat.lt_succ_iff_lt_or_eq.1 hj with h | h; exact hall.out j h; subst h; exact unhide HV), (unhide BW).trans ((unhide HB _).mono (unhide BW).size)⟩
        case measure => simp [intOf]; omega
    · have hi1 : ¬ (k : Int) < (zss.length : Int) := by omega
      have HY : Hid (rcB zss = true) := hide (rcB_yes (fun j hj => hall.out j (by omega)) hbig2)
      go_wp2_with fail
      go_ret
      exact ⟨ret_bool (unhide HY).symm, unhide BW⟩

theorem implRecordOk_is {c : Bool} (ad : Option Addr) (len cap : Nat) (zss : List (List Int)) (w : World) (hr : RowS w ad len zss) (hc : rcB zss = c) :
    Calls Try.prog 27 #[.slice ad len cap] w fun e w' => e = .returned (.bool c) ∧ Below w.heap.size w w' := by
  subst hc; exact implRecordOk_any ad len cap zss w hr

end Go.Proofs.Ytfnnfldfnjnlfah
