/-
  Names in their order: ascending names of rules are no more than there are rules. No program here.
  Rules in a book by name: whether they are so, in the program's own way, is what the model says. No program here.
  Carries, defects, deeds and fleets in plain lists: whether they are so, what is due, what may fly, what a deed does. No program here.
-/
import Derived.Test.YticdccdkjepifaaGreatMLowPure
import Derived.Sort.Walk0

namespace Go.Proofs.YticdccdkjepifaaGreat
open Go

theorem sLt_iff {x y : ByteArray} : sLt x y = true ↔ x.toList < y.toList := by
  unfold sLt
  rw [bytesLess_eq]
  simp
theorem sLt_trans {x y z : ByteArray} (h : sLt x y = true) (k : sLt y z = true) : sLt x z = true := by
  rw [sLt_iff] at *
  exact List.lt_trans h k
theorem sLt_irr (x : ByteArray) : sLt x x = false := by
  cases e : sLt x x with
  | false => rfl
  | true => rw [sLt_iff] at e; exact absurd e (List.lt_irrefl _)
theorem sEq_iff {x y : ByteArray} : sEq x y = true ↔ x.toList = y.toList := by simp [sEq]
theorem sLt_eq {x y z : ByteArray} (h : sEq x y = true) : sLt x z = sLt y z := by unfold sLt; rw [sEq_iff.1 h]
theorem sLt_eq2 {x y z : ByteArray} (h : sEq x y = true) : sLt z x = sLt z y := by unfold sLt; rw [sEq_iff.1 h]
/-- The rule that is found has the name. -/
theorem wfK_name {rs : List Wr} {s : ByteArray} (h : wfK rs s < rs.length) : sEq (elAt rs (wfK rs s)).n s = true := by
  unfold wfK at h ⊢
  cases e : (List.range rs.length).find? fun i => sEq (elAt rs i).n s with
  | none => rw [e] at h; simp at h
  | some k =>
    rw [List.find?_range_eq_some] at e
    simpa using e.1
theorem wr_up {rs : List Wr} (h : wrB rs = true) {i : Nat} (hi : i + 1 < rs.length) : sLt (elAt rs i).n (elAt rs (i + 1)).n = true := by
  have := (wrB_facts h).1 (i + 1) hi
  unfold wrAtB wrSB at this
  simp only [Bool.and_eq_true, Bool.or_eq_true, decide_eq_true_eq] at this
  have k := this.1.1.1.1.2
  rcases k with k | k
  · omega
  · simpa using k
theorem wr_asc {rs : List Wr} (h : wrB rs = true) : ∀ (m i : Nat), i + m + 1 < rs.length → sLt (elAt rs i).n (elAt rs (i + m + 1)).n = true
  | 0, i, hi => wr_up h hi
  | m + 1, i, hi => sLt_trans (wr_asc h m i (by omega)) (wr_up h (i := i + m + 1) hi)
theorem nm_facts {rs : List Wr} {ts : List ByteArray} (h : nmB rs ts = true) {i : Nat} (hi : i < ts.length) : wfK rs (elAt ts i) < rs.length ∧ (i = 0 ∨ sLt (elAt ts (i - 1)) (elAt ts i) = true) := by
  have := of_decide_eq_true h i hi
  simpa [nmAt] using this
theorem nm_up {rs : List Wr} {ts : List ByteArray} (hw : wrB rs = true) (h : nmB rs ts = true) : ∀ i, i < ts.length → i ≤ wfK rs (elAt ts i)
  | 0, _ => Nat.zero_le _
  | i + 1, hi => by
    have ih := nm_up hw h i (by omega)
    have a := nm_facts h (i := i) (by omega)
    have b := nm_facts h hi
    have na := wfK_name a.1
    have nb := wfK_name b.1
    have lt : sLt (elAt ts i) (elAt ts (i + 1)) = true := by
      rcases b.2 with e | e
      · omega
      · simpa using e
    rcases Nat.lt_or_ge i (wfK rs (elAt ts (i + 1))) with c | c
    · exact c
    · exfalso
      have hlt : sLt (elAt rs (wfK rs (elAt ts i))).n (elAt rs (wfK rs (elAt ts (i + 1)))).n = true := by rw [sLt_eq na, sLt_eq2 nb]; exact lt
      rcases Nat.lt_or_ge (wfK rs (elAt ts (i + 1))) (wfK rs (elAt ts i)) with d | d
      · have := wr_asc hw (wfK rs (elAt ts i) - wfK rs (elAt ts (i + 1)) - 1) (wfK rs (elAt ts (i + 1))) (by omega)
        rw [show wfK rs (elAt ts (i + 1)) + (wfK rs (elAt ts i) - wfK rs (elAt ts (i + 1)) - 1) + 1 = wfK rs (elAt ts i) by omega] at this
        have := sLt_trans hlt this
        rw [sLt_irr] at this; cases this
      · have e : wfK rs (elAt ts i) = wfK rs (elAt ts (i + 1)) := by omega
        rw [e, sLt_irr] at hlt; cases hlt
theorem nm_len {rs : List Wr} {ts : List ByteArray} (hw : wrB rs = true) (h : nmB rs ts = true) : ts.length ≤ rs.length := by
  rcases Nat.lt_or_ge rs.length ts.length with c | c
  · have a := nm_up hw h (ts.length - 1) (by omega)
    have b := nm_facts h (i := ts.length - 1) (by omega)
    omega
  · exact c

end Go.Proofs.YticdccdkjepifaaGreat

namespace Go.Proofs.YticdccdkjepifaaGreat
open Go

theorem sEq_eq {x y : ByteArray} : sEq x y = true ↔ x = y := by
  rw [sEq_iff, ByteArray.toList_eq, ByteArray.toList_eq]
  exact ⟨fun h => ByteArray.ext (Array.ext' h), fun h => by rw [h]⟩
theorem sEq_self (x : ByteArray) : sEq x x = true := sEq_eq.2 rfl
theorem sLt_or (x y : ByteArray) : (sLt y x || sEq y x) = !sLt x y := by
  rw [Bool.eq_iff_iff]
  simp only [Bool.or_eq_true, Bool.not_eq_true', sLt_iff, sEq_iff]
  rw [← Bool.not_eq_true, sLt_iff, List.not_lt]
  constructor
  · rintro (h | h)
    · exact List.le_of_lt h
    · rw [h]; exact List.le_refl _
  · intro h
    rcases List.le_iff_lt_or_eq.1 h with k | k
    · exact .inl k
    · exact .inr k
/-- Texts that rise. -/
def riseS (ts : List ByteArray) : Bool := decide (∀ i, i < ts.length - 1 → sLt (elAt ts i) (elAt ts (i + 1)) = true)
theorem riseS_true {ts : List ByteArray} (h : ∀ i, i + 1 < ts.length → sLt (elAt ts i) (elAt ts (i + 1)) = true) : riseS ts = true := decide_eq_true (fun i hi => h i (by omega))
theorem riseS_false {ts : List ByteArray} {i : Nat} (hi : i + 1 < ts.length) (h : sLt (elAt ts i) (elAt ts (i + 1)) = false) : riseS ts = false := decide_eq_false (fun k => by have := k i (by omega); rw [h] at this; cases this)
theorem riseS_at {ts : List ByteArray} (h : riseS ts = true) {i : Nat} (hi : i + 1 < ts.length) : sLt (elAt ts i) (elAt ts (i + 1)) = true := of_decide_eq_true h i (by omega)
/-- The names of rules. -/
def wrN (rs : List Wr) : List ByteArray := rs.map (·.n)
theorem wrN_len (rs : List Wr) : (wrN rs).length = rs.length := by simp [wrN]
theorem wrN_at {rs : List Wr} {i : Nat} (hi : i < rs.length) : elAt (wrN rs) i = (elAt rs i).n := by
  unfold elAt wrN
  simp [hi]
theorem wrN_take {rs : List Wr} {k : Nat} (hk : k < rs.length) : wrN (rs.take (k + 1)) = wrN (rs.take k) ++ [(elAt rs k).n] := by
  have e : rs.take (k + 1) = rs.take k ++ [elAt rs k] := by
    unfold elAt
    rw [List.take_succ_eq_append_getElem hk]
    simp [hk]
  rw [e]
  simp [wrN]
/-- Whether a rule by itself is so. -/
def wrSo (p : Wr) : Bool := nameB p.n && inB p.r 1 3 && riseB p.q && allB p.q 0 9
/-- Whether what a rule needs is there and needs none. -/
def ndB (rs : List Wr) (i : Nat) : Bool := sEq (elAt rs i).d ⟨#[]⟩ || (decide (wfK rs (elAt rs i).d < rs.length) && sEq (elAt rs (wfK rs (elAt rs i).d)).d ⟨#[]⟩)
theorem wrSB_is {rs : List Wr} {i : Nat} : wrSB rs i = (wrSo (elAt rs i) && (decide (i = 0) || sLt (elAt rs (i - 1)).n (elAt rs i).n)) := by
  unfold wrSB wrSo
  cases nameB (elAt rs i).n <;> cases (decide (i = 0) || sLt (elAt rs (i - 1)).n (elAt rs i).n) <;> simp
theorem ndB_is (rs : List Wr) (i : Nat) (_hi : i < rs.length) : ndB rs i = wrDB rs i := by
  unfold ndB wrDB
  cases e : sEq (elAt rs i).d ⟨#[]⟩ with
  | true => rfl
  | false =>
    simp only [Bool.false_or]
    by_cases c : wfK rs (elAt rs i).d = i
    · rw [c, e]; simp
    · simp [c]
theorem wrB_long {rs : List Wr} (h : ¬ rs.length ≤ 30) : wrB rs = false := by simp [wrB, h]
theorem wrB_rise {rs : List Wr} (h : riseS (wrN rs) = false) : wrB rs = false := by
  have : ¬ ∀ i, i < (wrN rs).length - 1 → sLt (elAt (wrN rs) i) (elAt (wrN rs) (i + 1)) = true := of_decide_eq_false h
  cases e : wrB rs with
  | false => rfl
  | true =>
    exact absurd (fun i hi => by rw [wrN_len] at hi; rw [wrN_at (by omega), wrN_at (by omega)]; exact wr_up e (by omega)) this
theorem wrB_so {rs : List Wr} {i : Nat} (hi : i < rs.length) (h : wrSo (elAt rs i) = false) : wrB rs = false := wrB_not hi (by unfold wrAtB; rw [wrSB_is, h]; rfl)
theorem wrB_nd {rs : List Wr} {i : Nat} (hi : i < rs.length) (h : ndB rs i = false) : wrB rs = false := wrB_not hi (by unfold wrAtB; rw [← ndB_is rs i hi, h, Bool.and_false])
theorem wrB_yes {rs : List Wr} (h0 : rs.length ≤ 30) (h1 : riseS (wrN rs) = true) (h2 : ∀ i, i < rs.length → wrSo (elAt rs i) = true) (h3 : ∀ i, i < rs.length → ndB rs i = true) : wrB rs = true := by
  rw [wrB_all (fun i hi => ?_)]
  · exact decide_eq_true h0
  · unfold wrAtB
    rw [wrSB_is, h2 i hi, ← ndB_is rs i hi, h3 i hi]
    simp only [Bool.true_and, Bool.and_true, Bool.or_eq_true, decide_eq_true_eq]
    by_cases c : i = 0
    · exact .inl c
    · right
      have := riseS_at h1 (i := i - 1) (by rw [wrN_len]; omega)
      rw [wrN_at (by omega), show i - 1 + 1 = i by omega, wrN_at hi] at this
      exact this
/-- Names that rise are apart. -/
theorem riseS_lt {ts : List ByteArray} (h : riseS ts = true) : ∀ (m i : Nat), i + m + 1 < ts.length → sLt (elAt ts i) (elAt ts (i + m + 1)) = true
  | 0, i, hi => riseS_at h hi
  | m + 1, i, hi => sLt_trans (riseS_lt h m i (by omega)) (riseS_at h (i := i + m + 1) hi)
theorem riseS_ne {ts : List ByteArray} (h : riseS ts = true) {i j : Nat} (hi : i < ts.length) (hj : j < ts.length) (e : elAt ts i = elAt ts j) : i = j := by
  rcases Nat.lt_trichotomy i j with c | c | c
  · have := riseS_lt h (j - i - 1) i (by omega)
    rw [show i + (j - i - 1) + 1 = j by omega, e, sLt_irr] at this; cases this
  · exact c
  · have := riseS_lt h (i - j - 1) j (by omega)
    rw [show j + (i - j - 1) + 1 = i by omega, e, sLt_irr] at this; cases this
/-- The place of a rule, found by its name. -/
theorem wfK_at {rs : List Wr} (h : riseS (wrN rs) = true) {i : Nat} (hi : i < rs.length) : wfK rs (elAt rs i).n = i := by
  refine wfK_here hi (sEq_self _) (fun j hj => ?_)
  cases e : sEq (elAt rs j).n (elAt rs i).n with
  | false => rfl
  | true =>
    have e := sEq_eq.1 e
    rw [← wrN_at (show j < rs.length by omega), ← wrN_at hi] at e
    have := riseS_ne h (by rw [wrN_len]; omega) (by rw [wrN_len]; omega) e
    omega
theorem wfK_has {rs : List Wr} {s : ByteArray} {i : Nat} (hi : i < rs.length) (e : (elAt rs i).n = s) : wfK rs s < rs.length := by
  rcases Nat.lt_or_ge (wfK rs s) rs.length with c | c
  · exact c
  · exfalso
    unfold wfK at c
    cases f : (List.range rs.length).find? fun i => sEq (elAt rs i).n s with
    | none =>
      rw [List.find?_eq_none] at f
      have := f i (by simpa using hi)
      rw [e, sEq_self] at this
      exact this rfl
    | some k =>
      rw [List.find?_range_eq_some] at f
      rw [List.find?_range_eq_some.2 f] at c
      have := List.mem_range.1 f.2.1
      simp at c; omega
theorem wfK_nm {rs : List Wr} {s : ByteArray} (h : wfK rs s < rs.length) : (elAt rs (wfK rs s)).n = s := sEq_eq.1 (wfK_name h)

end Go.Proofs.YticdccdkjepifaaGreat

namespace Go.Proofs.YticdccdkjepifaaGreat
open Go Go.RowKit

/-- What the list allows of a defect: its name, how many, how many days. -/
structure Cr where
  n : ByteArray
  m : Int
  d : Int
instance : Inhabited Cr := ⟨⟨⟨#[]⟩, 0, 0⟩⟩
/-- A defect: its name, its item, since when. -/
structure Df where
  n : ByteArray
  i : Int
  s : Int
instance : Inhabited Df := ⟨⟨⟨#[]⟩, 0, 0⟩⟩
/-- A deed: its kind, a name, an item, how many. -/
structure De where
  k : Int
  n : ByteArray
  i : Int
  m : Int
instance : Inhabited De := ⟨⟨0, ⟨#[]⟩, 0, 0⟩⟩

section lists
variable {α : Type} [Inhabited α]
/-- Of all of a list. -/
def allE (P : α → Bool) (xs : List α) : Bool := decide (∀ i, i < xs.length → P (elAt xs i) = true)
theorem allE_true {P : α → Bool} {xs : List α} (h : ∀ i, i < xs.length → P (elAt xs i) = true) : allE P xs = true := decide_eq_true h
theorem allE_false {P : α → Bool} {xs : List α} {i : Nat} (hi : i < xs.length) (h : P (elAt xs i) = false) : allE P xs = false := decide_eq_false (fun k => by have := k i hi; rw [h] at this; cases this)
theorem allE_at {P : α → Bool} {xs : List α} (h : allE P xs = true) {i : Nat} (hi : i < xs.length) : P (elAt xs i) = true := of_decide_eq_true h i hi
theorem map_at {β : Type} [Inhabited β] {f : α → β} {xs : List α} {i : Nat} (hi : i < xs.length) : elAt (xs.map f) i = f (elAt xs i) := by
  unfold elAt
  simp [hi]
theorem take_more {xs : List α} {k : Nat} (hk : k < xs.length) : xs.take (k + 1) = xs.take k ++ [elAt xs k] := by
  unfold elAt
  rw [List.take_succ_eq_append_getElem hk]
  simp [hk]
theorem map_take {β : Type} {f : α → β} {xs : List α} {k : Nat} (hk : k < xs.length) : (xs.take (k + 1)).map f = (xs.take k).map f ++ [f (elAt xs k)] := by
  rw [take_more hk]
  simp
/-- A list of at most so many, each so, by names that rise. -/
def listS (most : Nat) (P : α → Bool) (key : α → ByteArray) (xs : List α) : Bool := decide (xs.length ≤ most) && allE P xs && riseS (xs.map key)
def listI (most : Nat) (P : α → Bool) (key : α → Int) (xs : List α) : Bool := decide (xs.length ≤ most) && allE P xs && riseB (xs.map key)
theorem listS_long {most : Nat} {P : α → Bool} {key : α → ByteArray} {xs : List α} (h : ¬ xs.length ≤ most) : listS most P key xs = false := by simp [listS, h]
theorem listI_long {most : Nat} {P : α → Bool} {key : α → Int} {xs : List α} (h : ¬ xs.length ≤ most) : listI most P key xs = false := by simp [listI, h]
theorem listS_el {most : Nat} {P : α → Bool} {key : α → ByteArray} {xs : List α} {i : Nat} (hi : i < xs.length) (h : P (elAt xs i) = false) : listS most P key xs = false := by simp [listS, allE_false hi h]
theorem listI_el {most : Nat} {P : α → Bool} {key : α → Int} {xs : List α} {i : Nat} (hi : i < xs.length) (h : P (elAt xs i) = false) : listI most P key xs = false := by simp [listI, allE_false hi h]
theorem listS_all {most : Nat} {P : α → Bool} {key : α → ByteArray} {xs : List α} (hl : xs.length ≤ most) (h : ∀ i, i < xs.length → P (elAt xs i) = true) : listS most P key xs = riseS (xs.map key) := by simp [listS, hl, allE_true h]
theorem listI_all {most : Nat} {P : α → Bool} {key : α → Int} {xs : List α} (hl : xs.length ≤ most) (h : ∀ i, i < xs.length → P (elAt xs i) = true) : listI most P key xs = riseB (xs.map key) := by simp [listI, hl, allE_true h]
theorem nthI_at {key : α → Int} {xs : List α} {i : Nat} (hi : i < xs.length) : nth (xs.map key) i = key (elAt xs i) := by
  unfold nth elAt
  simp [hi]
theorem listS_fall {most : Nat} {P : α → Bool} {key : α → ByteArray} {xs : List α} {i : Nat} (hi : i + 1 < xs.length) (h : sLt (key (elAt xs i)) (key (elAt xs (i + 1))) = false) : listS most P key xs = false := by
  have : riseS (xs.map key) = false := riseS_false (i := i) (by simpa using hi) (by rw [map_at (by omega), map_at hi]; exact h)
  simp [listS, this]
theorem listI_fall {most : Nat} {P : α → Bool} {key : α → Int} {xs : List α} {i : Nat} (hi : i + 1 < xs.length) (h : key (elAt xs (i + 1)) ≤ key (elAt xs i)) : listI most P key xs = false := by
  have : riseB (xs.map key) = false := riseB_false (j := i) (by simpa using hi) (by rw [nthI_at hi, nthI_at (i := i) (by omega)]; exact h)
  simp [listI, this]
theorem listS_yes {most : Nat} {P : α → Bool} {key : α → ByteArray} {xs : List α} (hl : xs.length ≤ most) (h : ∀ i, i < xs.length → P (elAt xs i) = true) (hr : ∀ i, i + 1 < xs.length → sLt (key (elAt xs i)) (key (elAt xs (i + 1))) = true) : listS most P key xs = true := by
  rw [listS_all hl h]
  refine riseS_true (fun i hi => ?_)
  rw [List.length_map] at hi
  rw [map_at (by omega), map_at hi]
  exact hr i hi
theorem listI_yes {most : Nat} {P : α → Bool} {key : α → Int} {xs : List α} (hl : xs.length ≤ most) (h : ∀ i, i < xs.length → P (elAt xs i) = true) (hr : ∀ i, i + 1 < xs.length → key (elAt xs i) < key (elAt xs (i + 1))) : listI most P key xs = true := by
  rw [listI_all hl h]
  refine riseB_true (fun i hi => ?_)
  rw [List.length_map] at hi
  rw [nthI_at (by omega), nthI_at hi]
  exact hr i hi
theorem listS_facts {most : Nat} {P : α → Bool} {key : α → ByteArray} {xs : List α} (h : listS most P key xs = true) : xs.length ≤ most ∧ (∀ i, i < xs.length → P (elAt xs i) = true) ∧ riseS (xs.map key) = true := by
  simp only [listS, Bool.and_eq_true, decide_eq_true_eq] at h
  exact ⟨h.1.1, fun i hi => allE_at h.1.2 hi, h.2⟩
theorem listI_facts {most : Nat} {P : α → Bool} {key : α → Int} {xs : List α} (h : listI most P key xs = true) : xs.length ≤ most ∧ (∀ i, i < xs.length → P (elAt xs i) = true) ∧ riseB (xs.map key) = true := by
  simp only [listI, Bool.and_eq_true, decide_eq_true_eq] at h
  exact ⟨h.1.1, fun i hi => allE_at h.1.2 hi, h.2⟩
/-- The place of the first of which P is so; -1 if there is none. -/
def ixEr (P : α → Bool) : List α → Nat → Int
  | [], _ => -1
  | x :: r, i => if P x = true then (i : Int) else ixEr P r (i + 1)
def ixE (P : α → Bool) (xs : List α) : Int := ixEr P xs 0
theorem ixEr_none {P : α → Bool} : ∀ {xs : List α} (i : Nat), (∀ j, j < xs.length → P (elAt xs j) = false) → ixEr P xs i = -1
  | [], _, _ => rfl
  | x :: r, i, h => by
    rw [ixEr, if_neg (by have := h 0 (by simp); simp [elAt] at this; simp [this])]
    exact ixEr_none (i + 1) (fun j hj => by simpa [elAt] using h (j + 1) (by simpa using hj))
theorem ixEr_at {P : α → Bool} : ∀ {xs : List α} (i k : Nat), k < xs.length → P (elAt xs k) = true → (∀ j, j < k → P (elAt xs j) = false) → ixEr P xs i = ((i + k : Nat) : Int)
  | [], _, k, hk, _, _ => by simp at hk
  | x :: r, i, 0, _, h, _ => by rw [ixEr, if_pos (by simpa [elAt] using h)]; simp
  | x :: r, i, k + 1, hk, h, hj => by
    rw [ixEr, if_neg (by have := hj 0 (by omega); simp [elAt] at this; simp [this]), ixEr_at (i + 1) k (by simpa using hk) (by simpa [elAt] using h) (fun j h2 => by simpa [elAt] using hj (j + 1) (by omega))]
    congr 1; omega
theorem ixE_none {P : α → Bool} {xs : List α} (h : ∀ j, j < xs.length → P (elAt xs j) = false) : ixE P xs = -1 := ixEr_none 0 h
theorem ixE_at {P : α → Bool} {xs : List α} {k : Nat} (hk : k < xs.length) (h : P (elAt xs k) = true) (hj : ∀ j, j < k → P (elAt xs j) = false) : ixE P xs = (k : Int) := by
  rw [ixE, ixEr_at 0 k hk h hj]; simp
theorem ixE_cases (P : α → Bool) (xs : List α) : (ixE P xs = -1 ∧ ∀ j, j < xs.length → P (elAt xs j) = false) ∨ ∃ k, k < xs.length ∧ ixE P xs = (k : Int) ∧ P (elAt xs k) = true ∧ ∀ j, j < k → P (elAt xs j) = false := by
  have : ∀ m, m ≤ xs.length → (∀ j, j < m → P (elAt xs j) = false) ∨ ∃ k, k < xs.length ∧ P (elAt xs k) = true ∧ ∀ j, j < k → P (elAt xs j) = false := by
    intro m
    induction m with
    | zero => intro _; left; intro j hj; omega
    | succ m ih =>
      intro hm
      rcases ih (by omega) with h | h
      · cases e : P (elAt xs m) with
        | true => exact .inr ⟨m, by omega, e, h⟩
        | false =>
          left; intro j hj
          rcases Nat.lt_or_ge j m with c | c
          · exact h j c
          · obtain rfl : j = m := by omega
            exact e
      · exact .inr h
  rcases this _ (Nat.le_refl _) with h | ⟨k, hk, e, h⟩
  · exact .inl ⟨ixE_none h, h⟩
  · exact .inr ⟨k, hk, ixE_at hk e h, e, h⟩
end lists

/-- Their cells. -/
def crC (p : Cr) : Nat → Value
  | 0 => .string p.n
  | 1 => .int .i64 p.m
  | _ => .int .i64 p.d
def dfC (p : Df) : Nat → Value
  | 0 => .string p.n
  | 1 => .int .i64 p.i
  | _ => .int .i64 p.s
def deC (p : De) : Nat → Value
  | 0 => .int .i64 p.k
  | 1 => .string p.n
  | 2 => .int .i64 p.i
  | _ => .int .i64 p.m
def tsC (p : Ts) : Nat → Value
  | 0 => .string p.nm
  | 1 => .int .i64 p.h
  | 2 => .int .i64 p.c
  | 3 => .int .i64 p.d
  | 4 => .int .i64 p.dh
  | 5 => .int .i64 p.dc
  | _ => .int .i64 p.dd
/-- A text that can be there, numbers of 64 bits. -/
def fitT (s : ByteArray) : Prop := s.size ≤ 9223372036854775807
def fitN (a : Int) : Prop := -9223372036854775808 ≤ a ∧ a ≤ 9223372036854775807

/-- Whether a carry, a list of carries is so. -/
def crB (c : Cr) : Bool := nameB c.n && inB c.m 0 10 && inB c.d 0 120
def caB (cs : List Cr) : Bool := listS 20 crB (·.n) cs
/-- A fleet: tasks, carries, defects, now. -/
structure Fl where
  ts : List Ts
  cs : List Cr
  ds : List Df
  nh : Int
  nc : Int
  nd : Int
/-- Whether a task, a defect, a fleet is so. -/
def tkB (nh nc nd : Int) (t : Ts) : Bool := tsB t && bhB t.dh t.dc t.dd nh nc nd
def dkB (nd : Int) (d : Df) : Bool := nameB d.n && inB d.i 1 1000000 && inB d.s 0 nd
def flB (f : Fl) : Bool := ckB f.nh f.nc f.nd && caB f.cs && listS 40 (tkB f.nh f.nc f.nd) (·.nm) f.ts && listI 20 (dkB f.nd) (·.i) f.ds
theorem flB_facts {f : Fl} (h : flB f = true) : ckB f.nh f.nc f.nd = true ∧ caB f.cs = true ∧ listS 40 (tkB f.nh f.nc f.nd) (·.nm) f.ts = true ∧ listI 20 (dkB f.nd) (·.i) f.ds = true := by
  simp only [flB, Bool.and_eq_true] at h
  exact ⟨h.1.1.1, h.1.1.2, h.1.2, h.2⟩
/-- Whether a task is due now; the place of a carry by its name; how many defects have a name. -/
def duT (f : Fl) (t : Ts) : Bool := d9D t f.nh f.nc f.nd
def qCr (nm : ByteArray) (c : Cr) : Bool := decide (c.n = nm)
def caF (f : Fl) (nm : ByteArray) : Int := ixE (qCr nm) f.cs
def mnK (ds : List Df) (nm : ByteArray) : Nat → Int
  | 0 => 0
  | k + 1 => mnK ds nm k + if (elAt ds k).n = nm then 1 else 0
theorem mnK_bd (ds : List Df) (nm : ByteArray) (k : Nat) : 0 ≤ mnK ds nm k ∧ mnK ds nm k ≤ k := by
  induction k with
  | zero => simp [mnK]
  | succ k ih => rw [mnK]; split <;> omega
def mnF (ds : List Df) (nm : ByteArray) : Int := mnK ds nm ds.length
/-- Why a defect bars: it is not listed, there are too many, it is too old. -/
def unB (f : Fl) (d : Df) : Bool := decide (caF f d.n < 0)
def mnB (f : Fl) (d : Df) : Bool := !decide (caF f d.n < 0) && decide ((elAt f.cs (caF f d.n).toNat).m < mnF f.ds d.n)
def olB (f : Fl) (d : Df) : Bool := !decide (caF f d.n < 0) && decide ((elAt f.cs (caF f d.n).toNat).d < f.nd - d.s)
/-- What Release tells. -/
def rlR (f : Fl) : Int × ByteArray :=
  if flB f = false then (1, ⟨#[]⟩)
  else if 0 ≤ ixE (duT f) f.ts then (2, (elAt f.ts (ixE (duT f) f.ts).toNat).nm)
  else if 0 ≤ ixE (unB f) f.ds then (3, (elAt f.ds (ixE (unB f) f.ds).toNat).n)
  else if 0 ≤ ixE (mnB f) f.ds then (4, (elAt f.ds (ixE (mnB f) f.ds).toNat).n)
  else if 0 ≤ ixE (olB f) f.ds then (5, (elAt f.ds (ixE (olB f) f.ds).toNat).n)
  else (0, ⟨#[]⟩)
/-- What NextDue tells. -/
def nxK (f : Fl) : Nat → ByteArray × Int × Bool
  | 0 => (⟨#[]⟩, 0, false)
  | k + 1 => if d9D (elAt f.ts k) f.nh f.nc f.nd = false ∧ 0 < (elAt f.ts k).c ∧ ((nxK f k).2.2 = false ∨ d9C (elAt f.ts k) f.nh f.nc f.nd < (nxK f k).2.1) then ((elAt f.ts k).nm, d9C (elAt f.ts k) f.nh f.nc f.nd, true) else nxK f k
def nxR (f : Fl) : ByteArray × Int × Bool := if flB f = true then nxK f f.ts.length else (⟨#[]⟩, 0, false)
/-- Where an item stands or would stand; whether it is there. -/
def plR (it : Int) : List Df → Nat
  | [] => 0
  | d :: r => if d.i < it then plR it r + 1 else 0
theorem plR_at (it : Int) : ∀ (ds : List Df) (k : Nat), k ≤ ds.length → (∀ j, j < k → (elAt ds j).i < it) → (k = ds.length ∨ ¬ (elAt ds k).i < it) → plR it ds = k
  | [], k, hk, _, _ => by simp at hk; rw [hk]; rfl
  | d :: r, 0, _, _, h => by
    rcases h with h | h
    · simp at h
    · rw [plR, if_neg (by simpa [elAt] using h)]
  | d :: r, k + 1, hk, hj, h => by
    rw [plR, if_pos (by simpa [elAt] using hj 0 (by omega)), plR_at it r k (by simpa using hk) (fun j h2 => by simpa [elAt] using hj (j + 1) (by omega)) (by
      rcases h with h | h
      · left; simpa using h
      · right; simpa [elAt] using h)]
theorem plR_le (it : Int) : ∀ (ds : List Df), plR it ds ≤ ds.length
  | [] => Nat.le_refl _
  | d :: r => by rw [plR]; split; have := plR_le it r; simpa using this; simp
def atI (ds : List Df) (it : Int) : Bool := decide (plR it ds < ds.length ∧ (elAt ds (plR it ds)).i = it)
def qTs (nm : ByteArray) (t : Ts) : Bool := decide (t.nm = nm)
/-- What a deed does; whether it is done. -/
def flyB (f : Fl) (d : De) : Bool := decide ((rlR f).1 = 0) && inB d.m 1 100 && ckB (f.nh + d.m) (f.nc + 1) f.nd
def dayB (f : Fl) (d : De) : Bool := inB d.m 1 100 && ckB f.nh f.nc (f.nd + d.m)
def tskB (f : Fl) (d : De) : Bool := decide (0 ≤ ixE (qTs d.n) f.ts)
def fndB (f : Fl) (d : De) : Bool := !atI f.ds d.i && dkB f.nd ⟨d.n, d.i, f.nd⟩ && decide (f.ds.length < 20)
def dwB (f : Fl) (d : De) : Bool := flB f && ((decide (d.k = 1) && flyB f d) || (decide (d.k = 2) && tskB f d) || (decide (d.k = 3) && fndB f d) || (decide (d.k = 4) && atI f.ds d.i) || (decide (d.k = 5) && dayB f d))
def dnT (f : Fl) (t : Ts) : Ts := ⟨t.nm, t.h, t.c, t.d, f.nh, f.nc, f.nd⟩
def dwF (f : Fl) (d : De) : Fl :=
  if dwB f d = false then f
  else if d.k = 1 then ⟨f.ts, f.cs, f.ds, f.nh + d.m, f.nc + 1, f.nd⟩
  else if d.k = 2 then ⟨f.ts.set (ixE (qTs d.n) f.ts).toNat (dnT f (elAt f.ts (ixE (qTs d.n) f.ts).toNat)), f.cs, f.ds, f.nh, f.nc, f.nd⟩
  else if d.k = 3 then ⟨f.ts, f.cs, f.ds.take (plR d.i f.ds) ++ ⟨d.n, d.i, f.nd⟩ :: f.ds.drop (plR d.i f.ds), f.nh, f.nc, f.nd⟩
  else if d.k = 4 then ⟨f.ts, f.cs, f.ds.take (plR d.i f.ds) ++ f.ds.drop (plR d.i f.ds + 1), f.nh, f.nc, f.nd⟩
  else ⟨f.ts, f.cs, f.ds, f.nh, f.nc, f.nd + d.m⟩
/-- Deeds one behind the other: the fleet behind k of them, what they told. -/
def rwF (f : Fl) (es : List De) : Nat → Fl
  | 0 => f
  | k + 1 => dwF (rwF f es k) (elAt es k)
def rwT (f : Fl) (es : List De) : Nat → List Bool
  | 0 => []
  | k + 1 => rwT f es k ++ [dwB (rwF f es k) (elAt es k)]
theorem rwT_len (f : Fl) (es : List De) (k : Nat) : (rwT f es k).length = k := by
  induction k with
  | zero => rfl
  | succ k ih => simp [rwT, ih]
def rwN (es : List De) : Nat := if es.length ≤ 100 then es.length else 0

end Go.Proofs.YticdccdkjepifaaGreat
