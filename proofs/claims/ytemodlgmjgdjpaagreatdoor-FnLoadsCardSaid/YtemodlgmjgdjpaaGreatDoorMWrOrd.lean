/-
  Names in their order: ascending names of rules are no more than there are rules. No program here.
  Rules in a book by name: whether they are so, in the program's own way, is what the model says. No program here.
  What is aboard, as the program asks it, in plain numbers: the same answer as the model's. No program here.
  The first load of which something is so, and texts sorted, in plain numbers. No program here.
  Why a load is refused, as the program asks it, in plain numbers: the same codes as the model's. No program here.
-/
import Derived.Test.YtemodlgmjgdjpaaGreatDoorMOnly
import Derived.Sort.Walk0
import Derived.Test.YtemodlgmjgdjpaaGreatDoorMMarkText

namespace Go.Proofs.YtemodlgmjgdjpaaGreatDoor
open Go

theorem sLt_iff {x y : ByteArray} : sLt x y = true ↔ x.toList < y.toList := by
  unfold sLt
  rw [bytesLess_eq]
  simp
theorem sLt_trans {x y z : ByteArray} (h : sLt x y = true) (k : sLt y z = true) : sLt x z = true := by
  rw [sLt_iff] at *
  exact List.lt_trans h k
theorem sLt_irr (x : ByteArray) : sLt x x = false := by
  cases e : sLt x x with
  | false => rfl
  | true => rw [sLt_iff] at e; exact absurd e (List.lt_irrefl _)
theorem sEq_iff {x y : ByteArray} : sEq x y = true ↔ x.toList = y.toList := by simp [sEq]
theorem sLt_eq {x y z : ByteArray} (h : sEq x y = true) : sLt x z = sLt y z := by unfold sLt; rw [sEq_iff.1 h]
theorem sLt_eq2 {x y z : ByteArray} (h : sEq x y = true) : sLt z x = sLt z y := by unfold sLt; rw [sEq_iff.1 h]
/-- The rule that is found has the name. -/
theorem wfK_name {rs : List Wr} {s : ByteArray} (h : wfK rs s < rs.length) : sEq (elAt rs (wfK rs s)).n s = true := by
  unfold wfK at h ⊢
  cases e : (List.range rs.length).find? fun i => sEq (elAt rs i).n s with
  | none => rw [e] at h; simp at h
  | some k =>
    rw [List.find?_range_eq_some] at e
    simpa using e.1
theorem wr_up {rs : List Wr} (h : wrB rs = true) {i : Nat} (hi : i + 1 < rs.length) : sLt (elAt rs i).n (elAt rs (i + 1)).n = true := by
  have := (wrB_facts h).1 (i + 1) hi
  unfold wrAtB wrSB at this
  simp only [Bool.and_eq_true, Bool.or_eq_true, decide_eq_true_eq] at this
  have k := this.1.1.1.1.2
  rcases k with k | k
  · omega
  · simpa using k
theorem wr_asc {rs : List Wr} (h : wrB rs = true) : ∀ (m i : Nat), i + m + 1 < rs.length → sLt (elAt rs i).n (elAt rs (i + m + 1)).n = true
  | 0, i, hi => wr_up h hi
  | m + 1, i, hi => sLt_trans (wr_asc h m i (by omega)) (wr_up h (i := i + m + 1) hi)
theorem nm_facts {rs : List Wr} {ts : List ByteArray} (h : nmB rs ts = true) {i : Nat} (hi : i < ts.length) : wfK rs (elAt ts i) < rs.length ∧ (i = 0 ∨ sLt (elAt ts (i - 1)) (elAt ts i) = true) := by
  have := of_decide_eq_true h i hi
  simpa [nmAt] using this
theorem nm_up {rs : List Wr} {ts : List ByteArray} (hw : wrB rs = true) (h : nmB rs ts = true) : ∀ i, i < ts.length → i ≤ wfK rs (elAt ts i)
  | 0, _ => Nat.zero_le _
  | i + 1, hi => by
    have ih := nm_up hw h i (by omega)
    have a := nm_facts h (i := i) (by omega)
    have b := nm_facts h hi
    have na := wfK_name a.1
    have nb := wfK_name b.1
    have lt : sLt (elAt ts i) (elAt ts (i + 1)) = true := by
      rcases b.2 with e | e
      · omega
      · simpa using e
    rcases Nat.lt_or_ge i (wfK rs (elAt ts (i + 1))) with c | c
    · exact c
    · exfalso
      have hlt : sLt (elAt rs (wfK rs (elAt ts i))).n (elAt rs (wfK rs (elAt ts (i + 1)))).n = true := by rw [sLt_eq na, sLt_eq2 nb]; exact lt
      rcases Nat.lt_or_ge (wfK rs (elAt ts (i + 1))) (wfK rs (elAt ts i)) with d | d
      · have := wr_asc hw (wfK rs (elAt ts i) - wfK rs (elAt ts (i + 1)) - 1) (wfK rs (elAt ts (i + 1))) (by omega)
        rw [show wfK rs (elAt ts (i + 1)) + (wfK rs (elAt ts i) - wfK rs (elAt ts (i + 1)) - 1) + 1 = wfK rs (elAt ts i) by omega] at this
        have := sLt_trans hlt this
        rw [sLt_irr] at this; cases this
      · have e : wfK rs (elAt ts i) = wfK rs (elAt ts (i + 1)) := by omega
        rw [e, sLt_irr] at hlt; cases hlt
theorem nm_len {rs : List Wr} {ts : List ByteArray} (hw : wrB rs = true) (h : nmB rs ts = true) : ts.length ≤ rs.length := by
  rcases Nat.lt_or_ge rs.length ts.length with c | c
  · have a := nm_up hw h (ts.length - 1) (by omega)
    have b := nm_facts h (i := ts.length - 1) (by omega)
    omega
  · exact c

end Go.Proofs.YtemodlgmjgdjpaaGreatDoor

namespace Go.Proofs.YtemodlgmjgdjpaaGreatDoor
open Go

theorem sEq_eq {x y : ByteArray} : sEq x y = true ↔ x = y := by
  rw [sEq_iff, ByteArray.toList_eq, ByteArray.toList_eq]
  exact ⟨fun h => ByteArray.ext (Array.ext' h), fun h => by rw [h]⟩
theorem sEq_self (x : ByteArray) : sEq x x = true := sEq_eq.2 rfl
theorem sLt_or (x y : ByteArray) : (sLt y x || sEq y x) = !sLt x y := by
  rw [Bool.eq_iff_iff]
  simp only [Bool.or_eq_true, Bool.not_eq_true', sLt_iff, sEq_iff]
  rw [← Bool.not_eq_true, sLt_iff, List.not_lt]
  constructor
  · rintro (h | h)
    · exact List.le_of_lt h
    · rw [h]; exact List.le_refl _
  · intro h
    rcases List.le_iff_lt_or_eq.1 h with k | k
    · exact .inl k
    · exact .inr k
/-- Texts that rise. -/
def riseS (ts : List ByteArray) : Bool := decide (∀ i, i < ts.length - 1 → sLt (elAt ts i) (elAt ts (i + 1)) = true)
theorem riseS_true {ts : List ByteArray} (h : ∀ i, i + 1 < ts.length → sLt (elAt ts i) (elAt ts (i + 1)) = true) : riseS ts = true := decide_eq_true (fun i hi => h i (by omega))
theorem riseS_false {ts : List ByteArray} {i : Nat} (hi : i + 1 < ts.length) (h : sLt (elAt ts i) (elAt ts (i + 1)) = false) : riseS ts = false := decide_eq_false (fun k => by have := k i (by omega); rw [h] at this; cases this)
theorem riseS_at {ts : List ByteArray} (h : riseS ts = true) {i : Nat} (hi : i + 1 < ts.length) : sLt (elAt ts i) (elAt ts (i + 1)) = true := of_decide_eq_true h i (by omega)
/-- The names of rules. -/
def wrN (rs : List Wr) : List ByteArray := rs.map (·.n)
theorem wrN_len (rs : List Wr) : (wrN rs).length = rs.length := by simp [wrN]
theorem wrN_at {rs : List Wr} {i : Nat} (hi : i < rs.length) : elAt (wrN rs) i = (elAt rs i).n := by
  unfold elAt wrN
  simp [hi]
theorem wrN_take {rs : List Wr} {k : Nat} (hk : k < rs.length) : wrN (rs.take (k + 1)) = wrN (rs.take k) ++ [(elAt rs k).n] := by
  have e : rs.take (k + 1) = rs.take k ++ [elAt rs k] := by
    unfold elAt
    rw [List.take_succ_eq_append_getElem hk]
    simp [hk]
  rw [e]
  simp [wrN]
/-- Whether a rule by itself is so. -/
def wrSo (p : Wr) : Bool := nameB p.n && inB p.r 1 3 && riseB p.q && allB p.q 0 9
/-- Whether what a rule needs is there and needs none. -/
def ndB (rs : List Wr) (i : Nat) : Bool := sEq (elAt rs i).d ⟨#[]⟩ || (decide (wfK rs (elAt rs i).d < rs.length) && sEq (elAt rs (wfK rs (elAt rs i).d)).d ⟨#[]⟩)
theorem wrSB_is {rs : List Wr} {i : Nat} : wrSB rs i = (wrSo (elAt rs i) && (decide (i = 0) || sLt (elAt rs (i - 1)).n (elAt rs i).n)) := by
  unfold wrSB wrSo
  cases nameB (elAt rs i).n <;> cases (decide (i = 0) || sLt (elAt rs (i - 1)).n (elAt rs i).n) <;> simp
theorem ndB_is (rs : List Wr) (i : Nat) (_hi : i < rs.length) : ndB rs i = wrDB rs i := by
  unfold ndB wrDB
  cases e : sEq (elAt rs i).d ⟨#[]⟩ with
  | true => rfl
  | false =>
    simp only [Bool.false_or]
    by_cases c : wfK rs (elAt rs i).d = i
    · rw [c, e]; simp
    · simp [c]
theorem wrB_long {rs : List Wr} (h : ¬ rs.length ≤ 30) : wrB rs = false := by simp [wrB, h]
theorem wrB_rise {rs : List Wr} (h : riseS (wrN rs) = false) : wrB rs = false := by
  have : ¬ ∀ i, i < (wrN rs).length - 1 → sLt (elAt (wrN rs) i) (elAt (wrN rs) (i + 1)) = true := of_decide_eq_false h
  cases e : wrB rs with
  | false => rfl
  | true =>
    exact absurd (fun i hi => by rw [wrN_len] at hi; rw [wrN_at (by omega), wrN_at (by omega)]; exact wr_up e (by omega)) this
theorem wrB_so {rs : List Wr} {i : Nat} (hi : i < rs.length) (h : wrSo (elAt rs i) = false) : wrB rs = false := wrB_not hi (by unfold wrAtB; rw [wrSB_is, h]; rfl)
theorem wrB_nd {rs : List Wr} {i : Nat} (hi : i < rs.length) (h : ndB rs i = false) : wrB rs = false := wrB_not hi (by unfold wrAtB; rw [← ndB_is rs i hi, h, Bool.and_false])
theorem wrB_yes {rs : List Wr} (h0 : rs.length ≤ 30) (h1 : riseS (wrN rs) = true) (h2 : ∀ i, i < rs.length → wrSo (elAt rs i) = true) (h3 : ∀ i, i < rs.length → ndB rs i = true) : wrB rs = true := by
  rw [wrB_all (fun i hi => ?_)]
  · exact decide_eq_true h0
  · unfold wrAtB
    rw [wrSB_is, h2 i hi, ← ndB_is rs i hi, h3 i hi]
    simp only [Bool.true_and, Bool.and_true, Bool.or_eq_true, decide_eq_true_eq]
    by_cases c : i = 0
    · exact .inl c
    · right
      have := riseS_at h1 (i := i - 1) (by rw [wrN_len]; omega)
      rw [wrN_at (by omega), show i - 1 + 1 = i by omega, wrN_at hi] at this
      exact this
/-- Names that rise are apart. -/
theorem riseS_lt {ts : List ByteArray} (h : riseS ts = true) : ∀ (m i : Nat), i + m + 1 < ts.length → sLt (elAt ts i) (elAt ts (i + m + 1)) = true
  | 0, i, hi => riseS_at h hi
  | m + 1, i, hi => sLt_trans (riseS_lt h m i (by omega)) (riseS_at h (i := i + m + 1) hi)
theorem riseS_ne {ts : List ByteArray} (h : riseS ts = true) {i j : Nat} (hi : i < ts.length) (hj : j < ts.length) (e : elAt ts i = elAt ts j) : i = j := by
  rcases Nat.lt_trichotomy i j with c | c | c
  · have := riseS_lt h (j - i - 1) i (by omega)
    rw [show i + (j - i - 1) + 1 = j by omega, e, sLt_irr] at this; cases this
  · exact c
  · have := riseS_lt h (i - j - 1) j (by omega)
    rw [show j + (i - j - 1) + 1 = i by omega, e, sLt_irr] at this; cases this
/-- The place of a rule, found by its name. -/
theorem wfK_at {rs : List Wr} (h : riseS (wrN rs) = true) {i : Nat} (hi : i < rs.length) : wfK rs (elAt rs i).n = i := by
  refine wfK_here hi (sEq_self _) (fun j hj => ?_)
  cases e : sEq (elAt rs j).n (elAt rs i).n with
  | false => rfl
  | true =>
    have e := sEq_eq.1 e
    rw [← wrN_at (show j < rs.length by omega), ← wrN_at hi] at e
    have := riseS_ne h (by rw [wrN_len]; omega) (by rw [wrN_len]; omega) e
    omega
theorem wfK_has {rs : List Wr} {s : ByteArray} {i : Nat} (hi : i < rs.length) (e : (elAt rs i).n = s) : wfK rs s < rs.length := by
  rcases Nat.lt_or_ge (wfK rs s) rs.length with c | c
  · exact c
  · exfalso
    unfold wfK at c
    cases f : (List.range rs.length).find? fun i => sEq (elAt rs i).n s with
    | none =>
      rw [List.find?_eq_none] at f
      have := f i (by simpa using hi)
      rw [e, sEq_self] at this
      exact this rfl
    | some k =>
      rw [List.find?_range_eq_some] at f
      rw [List.find?_range_eq_some.2 f] at c
      have := List.mem_range.1 f.2.1
      simp at c; omega
theorem wfK_nm {rs : List Wr} {s : ByteArray} (h : wfK rs s < rs.length) : (elAt rs (wfK rs s)).n = s := sEq_eq.1 (wfK_name h)

end Go.Proofs.YtemodlgmjgdjpaaGreatDoor

namespace Go.Proofs.YtemodlgmjgdjpaaGreatDoor
open Go Go.RowKit

/-- The numbers and the parts of loads. -/
def nbL (ls : List Lc) : List Int := ls.map Lc.nb
def ptL (ls : List Lc) : List ByteArray := ls.map Lc.p
theorem nbL_at (ls : List Lc) {i : Nat} (h : i < ls.length) : nth (nbL ls) i = (elAt ls i).nb := by simp [nth, nbL, elAt, h]
theorem ptL_at (ls : List Lc) {i : Nat} (h : i < ls.length) : elAt (ptL ls) i = (elAt ls i).p := by simp [ptL, elAt, h]
theorem nbL_len (ls : List Lc) : (nbL ls).length = ls.length := by simp [nbL]
theorem ptL_len (ls : List Lc) : (ptL ls).length = ls.length := by simp [ptL]
theorem nbL_take (ls : List Lc) {k : Nat} (h : k < ls.length) : nbL (ls.take (k + 1)) = nbL (ls.take k) ++ [(elAt ls k).nb] := by
  rw [List.take_add_one, show ls[k]? = some (elAt ls k) by simp [elAt, h]]; simp [nbL]
theorem ptL_take (ls : List Lc) {k : Nat} (h : k < ls.length) : ptL (ls.take (k + 1)) = ptL (ls.take k) ++ [(elAt ls k).p] := by
  rw [List.take_add_one, show ls[k]? = some (elAt ls k) by simp [elAt, h]]; simp [ptL]
/-- Loads that are sound, and not too many. -/
def lsB (ls : List Lc) : Bool := decide (ls.length ≤ 30) && decide (∀ i, i < ls.length → ldB (elAt ls i) = true)
theorem lsB_many {ls : List Lc} (h : ¬ ls.length ≤ 30) : lsB ls = false := by simp [lsB, h]
theorem lsB_no {ls : List Lc} {i : Nat} (hi : i < ls.length) (h : ldB (elAt ls i) = false) : lsB ls = false := by
  have : ¬ ∀ i, i < ls.length → ldB (elAt ls i) = true := fun k => by have := k i hi; rw [h] at this; cases this
  unfold lsB; rw [decide_eq_false this, Bool.and_false]
theorem lsB_yes {ls : List Lc} (h : ls.length ≤ 30) (k : ∀ i, i < ls.length → ldB (elAt ls i) = true) : lsB ls = true := by
  unfold lsB; rw [decide_eq_true h, decide_eq_true k]; rfl
theorem lsB_facts {ls : List Lc} (h : lsB ls = true) : ls.length ≤ 30 ∧ ∀ i, i < ls.length → ldB (elAt ls i) = true := by
  simp only [lsB, Bool.and_eq_true, decide_eq_true_eq] at h; exact h
/-- Whether no two are of one part. -/
def dfB (ls : List Lc) : Bool := decide ((ptL ls).Nodup)
theorem dfB_pair {ls : List Lc} : dfB ls = true ↔ ∀ i j, i < j → j < ls.length → (elAt ls i).p ≠ (elAt ls j).p := by
  rw [dfB, decide_eq_true_eq, List.nodup_iff_pairwise_ne, List.pairwise_iff_getElem]
  constructor
  · intro h i j hij hj
    have := h i j (by rw [ptL_len]; omega) (by rw [ptL_len]; omega) hij
    have e1 : (ptL ls)[i]'(by rw [ptL_len]; omega) = (elAt ls i).p := by rw [← ptL_at ls (by omega)]; simp [elAt, ptL_len, show i < ls.length by omega]
    have e2 : (ptL ls)[j]'(by rw [ptL_len]; omega) = (elAt ls j).p := by rw [← ptL_at ls (by omega)]; simp [elAt, ptL_len, hj]
    rw [e1, e2] at this; exact this
  · intro h i j hi hj hij
    have hi' : i < ls.length := by rw [ptL_len] at hi; exact hi
    have hj' : j < ls.length := by rw [ptL_len] at hj; exact hj
    have := h i j hij hj'
    have e1 : (ptL ls)[i] = (elAt ls i).p := by rw [← ptL_at ls hi']; simp [elAt, ptL_len, hi']
    have e2 : (ptL ls)[j] = (elAt ls j).p := by rw [← ptL_at ls hj']; simp [elAt, ptL_len, hj']
    rw [e1, e2]; exact this
/-- Whether what a load needs is aboard, of another part. -/
def haB (ls : List Lc) (l : Lc) : Bool := decide (l.ne = 0) || (decide (fnF ls l.ne ≠ -1) && decide ((elAt ls (fnF ls l.ne).toNat).p ≠ l.p))
/-- Whether each load fits and has what it needs. -/
def ebB (s : Int) (ls : List Lc) : Bool := decide (∀ i, i < ls.length → (inB s (elAt ls i).le (elAt ls i).mo && haB ls (elAt ls i)) = true)
theorem ebB_no {s : Int} {ls : List Lc} {i : Nat} (hi : i < ls.length) (h : (inB s (elAt ls i).le (elAt ls i).mo && haB ls (elAt ls i)) = false) : ebB s ls = false := by
  exact decide_eq_false (fun k => by have := k i hi; rw [h] at this; cases this)
theorem ebB_yes {s : Int} {ls : List Lc} (h : ∀ i, i < ls.length → (inB s (elAt ls i).le (elAt ls i).mo && haB ls (elAt ls i)) = true) : ebB s ls = true := decide_eq_true h
def aqB (s : Int) (ls : List Lc) : Bool := inB s 1 1000000 && lsB ls && riseB (nbL ls) && dfB ls && ebB s ls
theorem riseB_at {ls : List Lc} : riseB (nbL ls) = true ↔ ∀ i, i + 1 < ls.length → (elAt ls i).nb < (elAt ls (i + 1)).nb := by
  rw [riseB, decide_eq_true_eq, nbL_len]
  constructor
  · intro h i hi
    have := h i (by omega)
    rwa [nbL_at ls (by omega), nbL_at ls hi] at this
  · intro h i hi
    have := h i (by omega)
    rwa [nbL_at ls (by omega), nbL_at ls (by omega)]
theorem rise_nb {ls : List Lc} (h : riseB (nbL ls) = true) : ∀ (j i : Nat), i < j → j < ls.length → (elAt ls i).nb < (elAt ls j).nb
  | 0, i, hij, _ => by omega
  | j + 1, i, hij, hj => by
    have h1 := riseB_at.1 h j hj
    rcases Nat.lt_or_ge i j with c | c
    · have := rise_nb h j i c (by omega); omega
    · obtain rfl : i = j := by omega
      exact h1
theorem aqB_is (s : Int) (ls : List Lc) : aqB s ls = abB s ls := by
  rw [Bool.eq_iff_iff]
  constructor
  · intro h
    simp only [aqB, Bool.and_eq_true] at h
    obtain ⟨⟨⟨⟨h1, h2⟩, h3⟩, h4⟩, h5⟩ := h
    obtain ⟨k1, k2⟩ := lsB_facts h2
    have k4 := dfB_pair.1 h4
    have k5 := of_decide_eq_true h5
    have hall : ∀ i, i < ls.length → abI s ls i = true := by
      intro i hi
      have e5 := k5 i hi
      simp only [Bool.and_eq_true] at e5
      simp only [abI, Bool.and_eq_true, decide_eq_true_eq]
      refine ⟨⟨⟨⟨k2 i hi, fun h0 => rise_nb h3 i (i - 1) (by omega) hi⟩, e5.1⟩, fun hn => ?_⟩, fun k hk => k4 k i hk hi⟩
      have e6 := e5.2
      simp only [haB, Bool.or_eq_true, Bool.and_eq_true, decide_eq_true_eq] at e6
      rcases e6 with e6 | ⟨e6, e7⟩
      · exact absurd e6 hn
      · rcases fnF_cases ls (elAt ls i).ne with ⟨a, _⟩ | ⟨k, hk, a, b, _⟩
        · exact absurd a e6
        · refine ⟨fun e => ?_, by omega⟩
          have hki : k = i := by
            rcases Nat.lt_trichotomy k i with c | c | c
            · have := rise_nb h3 i k c hi; omega
            · exact c
            · have := rise_nb h3 k i c hk; omega
          rw [a, hki] at e7
          exact e7 (by simp)
    rw [abB_all hall, Bool.and_eq_true, decide_eq_true_eq]
    exact ⟨h1, k1⟩
  · intro h
    obtain ⟨f1, f2, f3⟩ := abB_facts h
    have hi := fun i hi => abI_facts (f1 i hi)
    have hr : riseB (nbL ls) = true := riseB_at.2 (fun i hi' => by have := (hi (i + 1) hi').2.1 (by omega); rwa [Nat.add_sub_cancel] at this)
    simp only [aqB, Bool.and_eq_true]
    refine ⟨⟨⟨⟨by simp only [inB, decide_eq_true_eq]; exact f2, lsB_yes f3 (fun i h' => (hi i h').1)⟩, hr⟩, dfB_pair.2 (fun i j hij hj => (hi j hj).2.2.2.2 i hij)⟩, ebB_yes (fun i h' => ?_)⟩
    have q := hi i h'
    simp only [Bool.and_eq_true, inB, decide_eq_true_eq]
    refine ⟨q.2.2.1, ?_⟩
    simp only [haB, Bool.or_eq_true, Bool.and_eq_true, decide_eq_true_eq]
    by_cases hn : (elAt ls i).ne = 0
    · exact .inl hn
    · obtain ⟨q1, q2⟩ := q.2.2.2.1 hn
      rcases fnF_cases ls (elAt ls i).ne with ⟨a, _⟩ | ⟨k, hk, a, b, _⟩
      · omega
      · refine .inr ⟨by omega, ?_⟩
        rw [a]
        simp only [Int.toNat_natCast]
        rcases Nat.lt_trichotomy k i with c | c | c
        · exact (hi i h').2.2.2.2 k c
        · rw [c] at b; exact absurd b.symm q1
        · exact fun e => (hi k hk).2.2.2.2 i c e.symm
theorem sort_rise (ss : List (List UInt8)) : riseS ((ss.mergeSort (fun x y => decide (x ≤ y))).map (fun x => (⟨⟨x⟩⟩ : ByteArray))) = decide ss.Nodup := by
  have tr : ∀ a b c : List UInt8, decide (a ≤ b) = true → decide (b ≤ c) = true → decide (a ≤ c) = true := fun a b c h1 h2 => by simp only [decide_eq_true_eq] at *; exact List.le_trans h1 h2
  have to : ∀ a b : List UInt8, (decide (a ≤ b) || decide (b ≤ a)) = true := fun a b => by simp only [Bool.or_eq_true, decide_eq_true_eq]; exact List.le_total a b
  have h1 := List.pairwise_mergeSort tr to ss
  have hp := (List.mergeSort_perm ss (fun x y => decide (x ≤ y))).nodup_iff
  obtain ⟨ts, hts⟩ : ∃ ts, ts = ss.mergeSort (fun x y => decide (x ≤ y)) := ⟨_, rfl⟩
  rw [← hts] at h1 hp ⊢
  have lt : ∀ {x y : List UInt8}, sLt ⟨⟨x⟩⟩ ⟨⟨y⟩⟩ = true ↔ x < y := fun {x y} => by
    rw [sLt_iff, ByteArray.toList_eq, ByteArray.toList_eq]
  have el : ∀ i (hi : i < ts.length), elAt (ts.map (fun x => (⟨⟨x⟩⟩ : ByteArray))) i = ⟨⟨ts[i]⟩⟩ := fun i hi => by simp [elAt, hi]
  rw [Bool.eq_iff_iff, decide_eq_true_eq, ← hp, List.nodup_iff_pairwise_ne, List.pairwise_iff_getElem]
  rw [List.pairwise_iff_getElem] at h1
  constructor
  · intro h i j hi hj hij e
    have hl := riseS_lt h (j - i - 1) i (by rw [List.length_map]; omega)
    rw [show i + (j - i - 1) + 1 = j by omega, el i hi, el j hj, lt, e] at hl
    exact List.lt_irrefl _ hl
  · intro h
    refine riseS_true (fun i hi => ?_)
    rw [List.length_map] at hi
    rw [el i (by omega), el (i + 1) hi, lt]
    have := h1 i (i + 1) (by omega) hi (by omega)
    simp only [decide_eq_true_eq] at this
    rcases List.le_iff_lt_or_eq.1 this with k | k
    · exact k
    · exact absurd k (h i (i + 1) (by omega) hi (by omega))

end Go.Proofs.YtemodlgmjgdjpaaGreatDoor

namespace Go.Proofs.YtemodlgmjgdjpaaGreatDoor
open Go Go.RowKit

/-- The place of the first load of which P is so; -1 if there is none. -/
def ixR (P : Lc → Bool) : List Lc → Nat → Int
  | [], _ => -1
  | x :: r, i => if P x = true then (i : Int) else ixR P r (i + 1)
def ixF (P : Lc → Bool) (ls : List Lc) : Int := ixR P ls 0
theorem ixR_none {P : Lc → Bool} : ∀ {ls : List Lc} (i : Nat), (∀ j, j < ls.length → P (elAt ls j) = false) → ixR P ls i = -1
  | [], _, _ => rfl
  | x :: r, i, h => by
    rw [ixR, if_neg (by have := h 0 (by simp); simp [elAt] at this; simp [this])]
    exact ixR_none (i + 1) (fun j hj => by simpa [elAt] using h (j + 1) (by simpa using hj))
theorem ixR_at {P : Lc → Bool} : ∀ {ls : List Lc} (i k : Nat), k < ls.length → P (elAt ls k) = true → (∀ j, j < k → P (elAt ls j) = false) → ixR P ls i = ((i + k : Nat) : Int)
  | [], _, k, hk, _, _ => by simp at hk
  | x :: r, i, 0, _, h, _ => by rw [ixR, if_pos (by simpa [elAt] using h)]; simp
  | x :: r, i, k + 1, hk, h, hj => by
    rw [ixR, if_neg (by have := hj 0 (by omega); simp [elAt] at this; simp [this]), ixR_at (i + 1) k (by simpa using hk) (by simpa [elAt] using h) (fun j h2 => by simpa [elAt] using hj (j + 1) (by omega))]
    congr 1; omega
theorem ixF_none {P : Lc → Bool} {ls : List Lc} (h : ∀ j, j < ls.length → P (elAt ls j) = false) : ixF P ls = -1 := ixR_none 0 h
theorem ixF_at {P : Lc → Bool} {ls : List Lc} {k : Nat} (hk : k < ls.length) (h : P (elAt ls k) = true) (hj : ∀ j, j < k → P (elAt ls j) = false) : ixF P ls = (k : Int) := by
  rw [ixF, ixR_at 0 k hk h hj]; simp
theorem ixF_cases (P : Lc → Bool) (ls : List Lc) : (ixF P ls = -1 ∧ ∀ j, j < ls.length → P (elAt ls j) = false) ∨ ∃ k, k < ls.length ∧ ixF P ls = (k : Int) ∧ P (elAt ls k) = true ∧ ∀ j, j < k → P (elAt ls j) = false := by
  have : ∀ m, m ≤ ls.length → (∀ j, j < m → P (elAt ls j) = false) ∨ ∃ k, k < ls.length ∧ P (elAt ls k) = true ∧ ∀ j, j < k → P (elAt ls j) = false := by
    intro m
    induction m with
    | zero => intro _; left; intro j hj; omega
    | succ m ih =>
      intro hm
      rcases ih (by omega) with h | h
      · cases e : P (elAt ls m) with
        | true => exact .inr ⟨m, by omega, e, h⟩
        | false =>
          left; intro j hj
          rcases Nat.lt_or_ge j m with c | c
          · exact h j c
          · obtain rfl : j = m := by omega
            exact e
      · exact .inr h
  rcases this _ (Nat.le_refl _) with h | ⟨k, hk, e, h⟩
  · exact .inl ⟨ixF_none h, h⟩
  · exact .inr ⟨k, hk, ixF_at hk e h, e, h⟩
/-- By number, by need, by part. -/
def qNb (n : Int) (x : Lc) : Bool := decide (x.nb = n)
def qNe (n : Int) (x : Lc) : Bool := decide (x.ne = n)
def qPt (p : ByteArray) (x : Lc) : Bool := decide (x.p = p)
theorem ixF_nb (ls : List Lc) (n : Int) : ixF (qNb n) ls = fnF ls n := by
  rcases fnF_cases ls n with ⟨a, b⟩ | ⟨k, hk, a, b, c⟩
  · rw [a, ixF_none (fun j hj => decide_eq_false (b j hj))]
  · rw [a, ixF_at hk (decide_eq_true b) (fun j hj => decide_eq_false (c j hj))]
theorem ixF_ne (ls : List Lc) (n : Int) : decide (0 ≤ ixF (qNe n) ls) = neB ls n := by
  rcases ixF_cases (qNe n) ls with ⟨a, b⟩ | ⟨k, hk, a, b, c⟩
  · rw [a, neB_no (fun i hi => of_decide_eq_false (b i hi))]; rfl
  · rw [a, neB_yes hk (of_decide_eq_true b)]; simp
theorem ixF_ge (P : Lc → Bool) (ls : List Lc) : -1 ≤ ixF P ls ∧ ixF P ls < ls.length := by
  rcases ixF_cases P ls with ⟨a, _⟩ | ⟨k, hk, a, _, _⟩ <;> omega
/-- Where no two are of one part the first of a part is the last. -/
theorem ixF_pt {ls : List Lc} (h : dfB ls = true) (p : ByteArray) : ixF (qPt p) ls = saF ls p := by
  have hd := dfB_pair.1 h
  rcases ixF_cases (qPt p) ls with ⟨a, b⟩ | ⟨k, hk, a, b, c⟩
  · rw [a, saF, saK_none _ _ _ (fun i hi => of_decide_eq_false (b i hi))]
  · rw [a, saF, saK_at ls p (of_decide_eq_true b) _ hk (fun i hi hki e => hd k i hki hi ((of_decide_eq_true b).trans e.symm))]
/-- Texts, sorted. -/
def srtT (ts : List ByteArray) : List ByteArray := ((ts.map (fun b => b.data.toList)).mergeSort (fun x y => decide (x ≤ y))).map (fun x => (⟨⟨x⟩⟩ : ByteArray))
theorem srtT_len (ts : List ByteArray) : (srtT ts).length = ts.length := by simp [srtT]
theorem srtT_rise (ts : List ByteArray) : riseS (srtT ts) = decide ts.Nodup := by
  rw [srtT, sort_rise, decide_eq_decide]
  constructor
  · intro h
    exact (List.pairwise_map.1 (List.nodup_iff_pairwise_ne.1 h)).imp (fun {a b} hab e => hab (by rw [e]))
  · intro h
    refine List.nodup_iff_pairwise_ne.2 (List.pairwise_map.2 ((List.nodup_iff_pairwise_ne.1 h).imp (fun {a b} hab e => hab ?_)))
    cases a; cases b
    simp only [ByteArray.mk.injEq]
    exact Array.toList_inj.1 e

end Go.Proofs.YtemodlgmjgdjpaaGreatDoor

namespace Go.Proofs.YtemodlgmjgdjpaaGreatDoor
open Go Go.RowKit

theorem ab_df {s : Int} {zs : List Lc} (h : abB s zs = true) : dfB zs = true := by
  rw [← aqB_is] at h
  simp only [aqB, Bool.and_eq_true] at h
  exact h.1.2
theorem ab_sa {s : Int} {zs : List Lc} (h : abB s zs = true) (p : ByteArray) : ixF (qPt p) zs = saF zs p := ixF_pt (ab_df h) p
/-- What is needed is aboard, of another part. -/
theorem ha_is {s : Int} {zs : List Lc} (h : abB s zs = true) (l : Lc) : haB zs l = true ↔ ¬ (l.ne ≠ 0 ∧ (fnF zs l.ne < 0 ∨ fnF zs l.ne = saF zs l.p)) := by
  have hd := dfB_pair.1 (ab_df h)
  rw [← ab_sa h l.p]
  simp only [haB, Bool.or_eq_true, Bool.and_eq_true, decide_eq_true_eq]
  by_cases h0 : l.ne = 0
  · simp [h0]
  · rcases fnF_cases zs l.ne with ⟨a, _⟩ | ⟨k, hk, a, b, _⟩
    · rw [a]; simp [h0]
    · rw [a]
      simp only [Int.toNat_natCast]
      constructor
      · rintro (e | ⟨_, e⟩)
        · exact absurd e h0
        · rintro ⟨_, e2 | e2⟩
          · omega
          · rcases ixF_cases (qPt l.p) zs with ⟨c, _⟩ | ⟨j, hj, c, d, _⟩
            · omega
            · have : j = k := by omega
              rw [this] at d
              exact e (of_decide_eq_true d)
      · intro e
        refine .inr ⟨by omega, fun e2 => e ⟨h0, .inr ?_⟩⟩
        rcases ixF_cases (qPt l.p) zs with ⟨c, d⟩ | ⟨j, hj, c, d, _⟩
        · exact absurd e2 (of_decide_eq_false (d k hk))
        · rw [c]
          have e3 : (elAt zs j).p = l.p := of_decide_eq_true d
          rcases Nat.lt_trichotomy j k with g | g | g
          · exact absurd (e3.trans e2.symm) (hd j k g hk)
          · rw [g]
          · exact absurd (e2.trans e3.symm) (hd k j g hj)
theorem rf_bad {s : Int} {zs : List Lc} {l : Lc} {sl : Int} (h : abB s zs = false ∨ ldB l = false) : tkC s zs l sl = 1 := by rw [tkC, if_pos h]
theorem rf_ok {s : Int} {zs : List Lc} {l : Lc} (h1 : abB s zs = true) (h2 : ldB l = true) : ¬ (abB s zs = false ∨ ldB l = false) := by rw [h1, h2]; simp
theorem rf_seal {s : Int} {zs : List Lc} {l : Lc} {sl : Int} (h1 : abB s zs = true) (h2 : ldB l = true) (h3 : sl ≠ seO l) : tkC s zs l sl = 2 := by rw [tkC, if_neg (rf_ok h1 h2), if_pos h3]
theorem rf_fits {s : Int} {zs : List Lc} {l : Lc} {sl : Int} (h1 : abB s zs = true) (h2 : ldB l = true) (h3 : sl = seO l) (h4 : inB s l.le l.mo = false) : tkC s zs l sl = 3 := by rw [tkC, if_neg (rf_ok h1 h2), if_neg (by simp [h3]), if_pos h4]
theorem rf_need {s : Int} {zs : List Lc} {l : Lc} {sl : Int} (h1 : abB s zs = true) (h2 : ldB l = true) (h3 : sl = seO l) (h4 : inB s l.le l.mo = true) (h5 : haB zs l = false) : tkC s zs l sl = 4 := by
  have h6 : l.ne ≠ 0 ∧ (fnF zs l.ne < 0 ∨ fnF zs l.ne = saF zs l.p) := by
    refine Classical.byContradiction fun c => ?_
    rw [(ha_is h1 l).2 c] at h5; cases h5
  rw [tkC, if_neg (rf_ok h1 h2), if_neg (by simp [h3]), if_neg (by simp [h4]), if_pos h6]
/-- The rest, where what is needed is aboard. -/
def tkR (zs : List Lc) (l : Lc) (S : Int) : Int :=
  if 0 ≤ S ∧ neB zs (elAt zs S.toNat).nb = true then 4
  else if (0 ≤ S ∧ l.nb ≤ (elAt zs S.toNat).nb) ∨ 0 ≤ fnF zs l.nb then 5
  else if S < 0 ∧ zs.length = 30 then 6
  else 0
theorem rf_rest {s : Int} {zs : List Lc} {l : Lc} {sl : Int} (h1 : abB s zs = true) (h2 : ldB l = true) (h3 : sl = seO l) (h4 : inB s l.le l.mo = true) (h5 : haB zs l = true) : tkC s zs l sl = tkR zs l (ixF (qPt l.p) zs) := by
  rw [ab_sa h1, tkC, if_neg (rf_ok h1 h2), if_neg (by simp [h3]), if_neg (by simp [h4]), if_neg ((ha_is h1 l).1 h5)]; rfl
theorem rf_n5 {zs : List Lc} {l : Lc} (h : 0 ≤ fnF zs l.nb) : tkR zs l (-1) = 5 := by simp [tkR, h]
theorem rf_n6 {zs : List Lc} {l : Lc} (h : fnF zs l.nb = -1) (h2 : zs.length = 30) : tkR zs l (-1) = 6 := by simp [tkR, h, h2]
theorem rf_n0 {zs : List Lc} {l : Lc} (h : fnF zs l.nb = -1) (h2 : ¬ zs.length = 30) : tkR zs l (-1) = 0 := by simp [tkR, h, h2]
theorem rf_k4 {zs : List Lc} {l : Lc} {k : Nat} {Y : Int} (hY : (elAt zs k).nb = Y) (h : neB zs Y = true) : tkR zs l (k : Int) = 4 := by
  have hk : (0 : Int) ≤ (k : Int) := by omega
  rw [tkR, Int.toNat_natCast, hY, if_pos ⟨hk, h⟩]
theorem rf_k5 {zs : List Lc} {l : Lc} {k : Nat} {Y : Int} (hY : (elAt zs k).nb = Y) (h : neB zs Y = false) (h2 : l.nb ≤ Y ∨ 0 ≤ fnF zs l.nb) : tkR zs l (k : Int) = 5 := by
  have hk : (0 : Int) ≤ (k : Int) := by omega
  rw [tkR, Int.toNat_natCast, hY, if_neg (by simp [h]), if_pos (by rcases h2 with h2 | h2; exact .inl ⟨hk, h2⟩; exact .inr h2)]
theorem rf_k0 {zs : List Lc} {l : Lc} {k : Nat} {Y : Int} (hY : (elAt zs k).nb = Y) (h : neB zs Y = false) (h2 : ¬ l.nb ≤ Y) (h3 : fnF zs l.nb = -1) : tkR zs l (k : Int) = 0 := by
  rw [tkR, Int.toNat_natCast, hY, if_neg (by simp [h]), if_neg (by omega), if_neg (by omega)]

end Go.Proofs.YtemodlgmjgdjpaaGreatDoor
