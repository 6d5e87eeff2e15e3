/-
  The names that are due, as a list that is found in whatever order and then sorted. No program here.
-/
import Derived.Test.YtnpohiceefkhdaoPtPure
namespace Go.Proofs.Ytnpohiceefkhdao
open Go Go.Maps

/-- Whether a stay is due: no life of its name has all its bounds unmet. -/
def dueB (ls : List Pt) (s : Pt) : Bool := decide (∀ j, j < ls.length → (elAt ls j).n = s.n → metB (elAt ls j).a (elAt ls j).b (elAt ls j).c s.a s.b s.c = true)
theorem dueB_none {ls : List Pt} {s : Pt} (h : hasN ls ls.length s.n = false) : dueB ls s = true := by
  simp only [hasN, decide_eq_false_iff_not] at h
  simp only [dueB, decide_eq_true_eq]
  exact fun j hj e => absurd ⟨j, hj, e⟩ h
theorem dueB_at {ls : List Pt} {s : Pt} (ha : apart ls ls.length) {j : Nat} (hj : j < ls.length) (e : (elAt ls j).n = s.n) : dueB ls s = metB (elAt ls j).a (elAt ls j).b (elAt ls j).c s.a s.b s.c := by
  cases h : metB (elAt ls j).a (elAt ls j).b (elAt ls j).c s.a s.b s.c with
  | false =>
    simp only [dueB, decide_eq_false_iff_not]
    intro k
    have := k j hj e
    rw [h] at this; cases this
  | true =>
    simp only [dueB, decide_eq_true_eq]
    intro i hi e'
    rcases Nat.lt_trichotomy i j with h' | h' | h'
    · exact absurd (e'.trans e.symm) (ha i j h' hj)
    · subst h'; exact h
    · exact absurd (e.trans e'.symm) (ha j i h' hi)

/-- The name at a place, as bytes. -/
def nmAt (ss : List Pt) (j : Nat) : List UInt8 := (elAt ss j).n.data.toList
theorem nmAt_inj {ss : List Pt} {i j : Nat} (h : nmAt ss i = nmAt ss j) : (elAt ss i).n = (elAt ss j).n := ByteArray.ext (Array.ext' h)
theorem nm_one {ss : List Pt} (ha : apart ss ss.length) {i j : Nat} (hi : i < ss.length) (hj : j < ss.length) (h : nmAt ss i = nmAt ss j) : i = j := by
  have e := nmAt_inj h
  rcases Nat.lt_trichotomy i j with h' | h' | h'
  · exact absurd e (ha i j h' hj)
  · exact h'
  · exact absurd e.symm (ha j i h' hi)

/-- What has been found of the names that are due, of those no longer to come. -/
def Found (ls ss : List Pt) (left : Lit → Bool) (F : List (List UInt8)) : Prop :=
  F.Nodup ∧ ∀ x, x ∈ F ↔ ∃ j, j < ss.length ∧ nmAt ss j = x ∧ left (.string x) = false ∧ dueB ls (elAt ss j) = true
theorem found_start (ls ss : List Pt) : Found ls ss (Maps.has (mapTo ss ss.length)) [] := by
  refine ⟨List.nodup_nil, fun x => ⟨fun h => (by cases h), fun ⟨j, hj, e, hl, _⟩ => ?_⟩⟩
  have h1 := has_mapTo ss ss.length (elAt ss j).n
  have h2 : hasN ss ss.length (elAt ss j).n = true := by simp only [hasN, decide_eq_true_eq]; exact ⟨j, hj, rfl⟩
  rw [h2] at h1
  rw [← e] at hl
  have h3 : Maps.has (mapTo ss ss.length) (.string (nmAt ss j)) = true := h1
  rw [h3] at hl; cases hl
theorem left_strike {left : Lit → Bool} {x y : List UInt8} : (left (.string y) && !(Lit.string y).sameKey (.string x)) = false ↔ left (.string y) = false ∨ y = x := by
  have h : (Lit.string y).sameKey (.string x) = true ↔ y = x := by
    rw [WideAt.sameKey_iff (show WideAt.IsKeyLit (.string x) from trivial)]
    exact ⟨fun e => by injection e, fun e => by rw [e]⟩
  cases hl : left (.string y) with
  | false => simp
  | true =>
    simp only [Bool.true_and, Bool.not_eq_false', h]
    exact ⟨Or.inr, fun k => k.resolve_left (by simp)⟩
theorem found_yes {ls ss : List Pt} {left : Lit → Bool} {F : List (List UInt8)} (h : Found ls ss left F) {x : List UInt8} (hx : left (.string x) = true) {j : Nat} (hj : j < ss.length) (e : nmAt ss j = x) (hd : dueB ls (elAt ss j) = true) :
    Found ls ss (fun z => left z && !z.sameKey (.string x)) (F ++ [x]) := by
  have hn : x ∉ F := fun hm => by
    obtain ⟨_, _, _, hl, _⟩ := (h.2 x).1 hm
    rw [hx] at hl; cases hl
  refine ⟨List.nodup_append.2 ⟨h.1, by simp, fun a ha b hb => ?_⟩, fun y => ?_⟩
  · simp only [List.mem_singleton] at hb
    subst hb
    exact fun e' => hn (e' ▸ ha)
  · rw [List.mem_append, List.mem_singleton, h.2 y]
    constructor
    · rintro (⟨i, hi, ei, hl, di⟩ | rfl)
      · exact ⟨i, hi, ei, left_strike.2 (.inl hl), di⟩
      · exact ⟨j, hj, e, left_strike.2 (.inr rfl), hd⟩
    · rintro ⟨i, hi, ei, hl, di⟩
      rcases left_strike.1 hl with hl | rfl
      · exact .inl ⟨i, hi, ei, hl, di⟩
      · exact .inr rfl
theorem found_no {ls ss : List Pt} {left : Lit → Bool} {F : List (List UInt8)} (h : Found ls ss left F) (ha : apart ss ss.length) {x : List UInt8} {j : Nat} (hj : j < ss.length) (e : nmAt ss j = x) (hd : dueB ls (elAt ss j) = false) :
    Found ls ss (fun z => left z && !z.sameKey (.string x)) F := by
  refine ⟨h.1, fun y => ?_⟩
  rw [h.2 y]
  constructor
  · rintro ⟨i, hi, ei, hl, di⟩
    exact ⟨i, hi, ei, left_strike.2 (.inl hl), di⟩
  · rintro ⟨i, hi, ei, hl, di⟩
    rcases left_strike.1 hl with hl | rfl
    · exact ⟨i, hi, ei, hl, di⟩
    · obtain rfl := nm_one ha hi hj (ei.trans e.symm)
      rw [hd] at di; cases di
/-- The names that are due, in the list's order. -/
def dueL (ls ss : List Pt) : List (List UInt8) := (ss.filter (dueB ls)).map fun p => p.n.data.toList
theorem mem_dueL {ls ss : List Pt} {x : List UInt8} : x ∈ dueL ls ss ↔ ∃ j, j < ss.length ∧ nmAt ss j = x ∧ dueB ls (elAt ss j) = true := by
  unfold dueL nmAt elAt
  simp only [List.mem_map, List.mem_filter]
  constructor
  · rintro ⟨p, ⟨hp, hd⟩, rfl⟩
    obtain ⟨j, hj, rfl⟩ := List.getElem_of_mem hp
    exact ⟨j, hj, by simp [hj], by simpa [hj] using hd⟩
  · rintro ⟨j, hj, e, hd⟩
    refine ⟨ss[j], ⟨List.getElem_mem hj, by simpa [hj] using hd⟩, by simpa [hj] using e⟩
theorem nodup_dueL {ls ss : List Pt} (ha : apart ss ss.length) : (dueL ls ss).Nodup := by
  unfold dueL
  have hp : ss.Pairwise (fun p q => p.n ≠ q.n) := by
    rw [List.pairwise_iff_getElem]
    intro i j hi hj hij
    have := ha i j hij hj
    simpa [elAt, hi, hj] using this
  refine List.pairwise_map.2 ((hp.filter _).imp fun {p q} hne e => hne (ByteArray.ext (Array.ext' e)))
theorem found_end {ls ss : List Pt} {left : Lit → Bool} {F : List (List UInt8)} (h : Found ls ss left F) (ha : apart ss ss.length) (hl : ∀ z, left z = false) : F.Perm (dueL ls ss) := by
  refine (List.perm_ext_iff_of_nodup h.1 (nodup_dueL ha)).2 fun x => ?_
  rw [h.2 x, mem_dueL]
  exact ⟨fun ⟨j, a, b, _, d⟩ => ⟨j, a, b, d⟩, fun ⟨j, a, b, d⟩ => ⟨j, a, b, hl _, d⟩⟩
/-- Whether both lists are so; what is told. -/
def dueOk (ls ss : List Pt) : Bool := okB ls 1000000 && okB ss 10000000
def dueR (ls ss : List Pt) : List (List UInt8) := if dueOk ls ss = true then (dueL ls ss).mergeSort leB else []
theorem dueR_no {ls ss : List Pt} (h : dueOk ls ss = false) : dueR ls ss = [] := by simp [dueR, h]
theorem dueR_yes {ls ss : List Pt} (h : dueOk ls ss = true) : dueR ls ss = (dueL ls ss).mergeSort leB := by simp [dueR, h]
theorem size_le {P : Program} {k : TypeId} {R : Value → Option (DataW Unit × List MemPlace)} {w : World} {b n : Nat} {D : DataW Unit} (h : w.ownsMap P k R b n D) : Maps.size D ≤ n := by
  obtain ⟨es, clock, _, _, hs, rfl⟩ := h
  rw [size_eq, length_sorted]
  simpa using hs
/-- What an entry of the map of the stays is: one of the stays. -/
theorem entry_is {ss : List Pt} (ha : apart ss ss.length) {x : List UInt8} {q : Int × Int × Int} (hat : ∀ zd, (mapTo ss ss.length).atKey (.string x) zd = cntD q.1 q.2.1 q.2.2) :
    ∃ j, j < ss.length ∧ nmAt ss j = x ∧ (elAt ss j).a = q.1 ∧ (elAt ss j).b = q.2.1 ∧ (elAt ss j).c = q.2.2 := by
  have h1 := has_true_of_atKey hat
  have e : (Lit.string x) = keyL ⟨x.toArray⟩ := by simp [keyL]
  rw [e, has_mapTo] at h1
  simp only [hasN, decide_eq_true_eq] at h1
  obtain ⟨j, hj, hn⟩ := h1
  have hx : nmAt ss j = x := by unfold nmAt; rw [hn]
  have h2 := at_mapTo ss ss.length ha j hj (.map [])
  have e2 : keyL (elAt ss j).n = .string x := by rw [hn]; exact e.symm
  rw [e2, hat (.map [])] at h2
  obtain ⟨a, b, c⟩ := cntD_inj h2
  exact ⟨j, hj, hx, a.symm, b.symm, c.symm⟩

end Go.Proofs.Ytnpohiceefkhdao
