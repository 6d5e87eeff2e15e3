/-
  What is told, as a list of rules: by rank, of one rank by name; found in whatever order and then sorted it is the same list. No program here.
-/
import Derived.Test.YtbaocifpifbldawGreatWrSort
namespace Go.Proofs.YtbaocifpifbldawGreat
open Go

theorem sLt_tri' {x y : ByteArray} (h1 : sLt x y = false) (h2 : ¬ x = y) : sLt y x = true := by
  have := sLt_or x y
  rw [h1] at this
  simp only [Bool.not_false, Bool.or_eq_true] at this
  rcases this with h | h
  · exact h
  · exact absurd (sEq_eq.1 h).symm h2
/-- The rules of a rank that are told. -/
def tlR (rs : List Wr) (P : Wr → Bool) (rk : Int) : List Wr := rs.filter (fun p => P p && decide (p.r = rk))
def tlL (rs : List Wr) (P : Wr → Bool) : List Wr := tlR rs P 3 ++ tlR rs P 2 ++ tlR rs P 1
theorem wr_pair {rs : List Wr} (h : riseS (wrN rs) = true) : rs.Pairwise (fun p q => sLt p.n q.n = true) := by
  have := rise_pair.1 h
  unfold wrN at this
  exact List.pairwise_map.1 this
theorem tlR_pair {rs : List Wr} {P : Wr → Bool} {rk : Int} (h : riseS (wrN rs) = true) : (tlR rs P rk).Pairwise (fun p q => ltW p q = true) := by
  have h1 : (tlR rs P rk).Pairwise (fun p q => sLt p.n q.n = true) := (wr_pair h).sublist List.filter_sublist
  refine h1.imp_of_mem (fun {a b} ha hb hab => ?_)
  have ea : a.r = rk := by have := (List.mem_filter.1 ha).2; simp only [Bool.and_eq_true, decide_eq_true_eq] at this; exact this.2
  have eb : b.r = rk := by have := (List.mem_filter.1 hb).2; simp only [Bool.and_eq_true, decide_eq_true_eq] at this; exact this.2
  unfold ltW
  rw [hab, ea, eb]; simp
theorem tlR_rank {rs : List Wr} {P : Wr → Bool} {rk : Int} {p : Wr} (h : p ∈ tlR rs P rk) : p.r = rk := by
  have := (List.mem_filter.1 h).2; simp only [Bool.and_eq_true, decide_eq_true_eq] at this; exact this.2
theorem tlL_pair {rs : List Wr} {P : Wr → Bool} (h : riseS (wrN rs) = true) : (tlL rs P).Pairwise (fun p q => ltW p q = true) := by
  unfold tlL
  rw [List.pairwise_append, List.pairwise_append]
  refine ⟨⟨tlR_pair h, tlR_pair h, fun a ha b hb => ?_⟩, tlR_pair h, fun a ha b hb => ?_⟩
  · have := tlR_rank ha; have := tlR_rank hb
    unfold ltW
    rw [show decide (b.r < a.r) = true by simp; omega]; rfl
  · have hb := tlR_rank hb
    have ha : 2 ≤ a.r := by
      rcases List.mem_append.1 ha with ha | ha
      · have := tlR_rank ha; omega
      · have := tlR_rank ha; omega
    unfold ltW
    rw [show decide (b.r < a.r) = true by simp; omega]; rfl
theorem tlL_mem {rs : List Wr} {P : Wr → Bool} (hr : ∀ p ∈ rs, 1 ≤ p.r ∧ p.r ≤ 3) {p : Wr} : p ∈ tlL rs P ↔ p ∈ rs ∧ P p = true := by
  unfold tlL tlR
  simp only [List.mem_append, List.mem_filter, Bool.and_eq_true, decide_eq_true_eq]
  constructor
  · rintro ((⟨h1, h2, _⟩ | ⟨h1, h2, _⟩) | ⟨h1, h2, _⟩) <;> exact ⟨h1, h2⟩
  · rintro ⟨h1, h2⟩
    have := hr p h1
    rcases (show p.r = 3 ∨ p.r = 2 ∨ p.r = 1 by omega) with h | h | h
    · exact .inl (.inl ⟨h1, h2, h⟩)
    · exact .inl (.inr ⟨h1, h2, h⟩)
    · exact .inr ⟨h1, h2, h⟩
theorem ltW_as {p q : Wr} (h1 : ltW p q = true) (h2 : ltW q p = true) : False := by
  unfold ltW at *
  simp only [Bool.or_eq_true, Bool.and_eq_true, decide_eq_true_eq] at *
  rcases h1 with h1 | ⟨h1, g1⟩ <;> rcases h2 with h2 | ⟨h2, g2⟩
  · omega
  · omega
  · omega
  · have := sLt_trans g1 g2; rw [sLt_irr] at this; cases this
theorem ltW_tot {p q : Wr} (hn : ¬ p.n = q.n) (h : ltW q p = false) : ltW p q = true := by
  unfold ltW at *
  simp only [Bool.or_eq_false_iff, decide_eq_false_iff_not] at h
  simp only [Bool.or_eq_true, Bool.and_eq_true, decide_eq_true_eq]
  by_cases c : q.r < p.r
  · exact .inl c
  · have e : p.r = q.r := by omega
    refine .inr ⟨e.symm, ?_⟩
    have h2 := h.2
    rw [show decide (p.r = q.r) = true by simp [e], Bool.true_and] at h2
    exact sLt_tri' h2 (fun k => hn k.symm)
/-- Found in whatever order, then sorted. -/
theorem tlL_of {rs : List Wr} {P : Wr → Bool} (h : riseS (wrN rs) = true) (hr : ∀ p ∈ rs, 1 ≤ p.r ∧ p.r ≤ 3) {ds : List Wq} (hs : ds.Pairwise (fun x y => ltOf cQ y x = false)) (hd : ds.Pairwise (fun x y => ¬ x.1.n = y.1.n)) (hm : ∀ p, p ∈ ds.map Prod.fst ↔ p ∈ rs ∧ P p = true) : ds.map Prod.fst = tlL rs P := by
  have h1 : (ds.map Prod.fst).Pairwise (fun p q => ltW p q = true) := by
    rw [List.pairwise_map]
    refine (hs.and hd).imp (fun {a b} hab => ltW_tot hab.2 ?_)
    have := hab.1
    unfold ltOf cQ at this
    rw [cL_lt] at this
    exact this
  have nd : ∀ {l : List Wr}, l.Pairwise (fun p q => ltW p q = true) → l.Nodup := fun {l} hl => hl.imp (fun {a b} hab e => by rw [e] at hab; exact ltW_as hab hab)
  refine List.Perm.eq_of_pairwise (le := fun p q => ltW p q = true) (fun a b _ _ k1 k2 => (ltW_as k1 k2).elim) h1 (tlL_pair h) ((List.perm_ext_iff_of_nodup (nd h1) (nd (tlL_pair h))).2 (fun p => ?_))
  rw [hm p, tlL_mem hr]

end Go.Proofs.YtbaocifpifbldawGreat
