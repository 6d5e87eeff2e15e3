/-
  Rules sorted by louderFirst: slices.SortFunc, by the library's contract: the same rules, in their order. At lists of at most a thousand.
  What is told, as a list of rules: by rank, of one rank by name; found in whatever order and then sorted it is the same list. No program here.
-/
import Derived.Test.YtfehfocfoegbdaaSfLay
import Derived.Test.YtfehfocfoegbdaaWrLdr
import Derived.Test.YtfehfocfoegbdaaMSetS

namespace Go.Proofs.Ytfehfocfoegbdaa
open Go.RowKit Go.Shelf Go.Lib Go.Sort

/-- A rule with the place of its quiet phases. -/
abbrev Wq := Wr × (Option Addr × Nat × Nat)
instance : Inhabited Wq := ⟨(default, (none, 0, 0))⟩
def wqE (x : Wq) : List Value := [.string x.1.n, .int .i64 x.1.r, .slice x.2.1 x.2.2.1 x.2.2.2, .bool x.1.l, .string x.1.d]
def cQ (x y : Wq) : Int := cL x.1 y.1
/-- Told ahead of: louder, or as loud and ahead by name. -/
def ltW (p p' : Wr) : Bool := decide (p'.r < p.r) || (decide (p'.r = p.r) && sLt p.n p'.n)
theorem cL_lt (p p' : Wr) : decide (cL p p' < 0) = ltW p p' := by
  unfold cL ltW cI
  by_cases h1 : p'.r < p.r
  · simp [h1]
  · by_cases h2 : p.r < p'.r
    · have h3 : ¬ p'.r = p.r := by omega
      simp [h1, h2, h3]
    · have h3 : p'.r = p.r := by omega
      simp only [h3, decide_true, Bool.true_and]
      unfold cS
      cases e1 : sLt p.n p'.n with
      | true => simp
      | false => cases e2 : sLt p'.n p.n <;> simp
theorem ltW_swo : SWO (ltOf cQ) where
  irrefl x := by unfold ltOf cQ; rw [cL_lt]; unfold ltW; simp [sLt_irr]
  trans x y z h1 h2 := by
    unfold ltOf cQ at *; rw [cL_lt] at *
    unfold ltW at *
    simp only [Bool.or_eq_true, Bool.and_eq_true, decide_eq_true_eq] at *
    rcases h1 with h1 | ⟨h1, g1⟩ <;> rcases h2 with h2 | ⟨h2, g2⟩
    · exact .inl (by omega)
    · exact .inl (by omega)
    · exact .inl (by omega)
    · exact .inr ⟨by omega, sLt_trans g1 g2⟩
  ntrans x y z h1 h2 := by
    unfold ltOf cQ at *; rw [cL_lt] at *
    unfold ltW at *
    simp only [Bool.or_eq_false_iff, decide_eq_false_iff_not] at *
    refine ⟨by omega, ?_⟩
    obtain ⟨a1, b1⟩ := h1
    obtain ⟨a2, b2⟩ := h2
    by_cases c : z.1.r = x.1.r
    · have e1 : y.1.r = x.1.r := by omega
      have e2 : z.1.r = y.1.r := by omega
      rw [e1] at b1 e2
      simp only [decide_true, Bool.true_and] at b1
      rw [show decide (z.1.r = y.1.r) = true by simp; omega, Bool.true_and] at b2
      simp only [c, decide_true, Bool.true_and]
      have k1 := sLt_or x.1.n y.1.n
      have k2 := sLt_or y.1.n z.1.n
      rw [b1] at k1
      rw [b2] at k2
      simp only [Bool.not_false, Bool.or_eq_true] at k1 k2
      cases e : sLt x.1.n z.1.n with
      | false => rfl
      | true =>
        exfalso
        rcases k1 with k1 | k1 <;> rcases k2 with k2 | k2
        · have := sLt_trans (sLt_trans e k2) k1; rw [sLt_irr] at this; cases this
        · have k2 := sEq_eq.1 k2; rw [k2] at e; have := sLt_trans e k1; rw [sLt_irr] at this; cases this
        · have k1 := sEq_eq.1 k1; rw [k1] at k2; have := sLt_trans e k2; rw [sLt_irr] at this; cases this
        · have k1 := sEq_eq.1 k1; have k2 := sEq_eq.1 k2; rw [k2, k1, sLt_irr] at e; cases e
    · simp [c]

theorem heap_sortedV {w : World} {g n : Nat} {os : Array Obj} {cur : Array Value} {e : TypeId} {fr : Nat × Nat} (F : Array Value) (hb : w.heap[g]? = some (.cells cur e fr)) :
    (grow (putRow id (Sort.ahead w n) g 0 F) os).heap[g]? = some (.cells (putCells id 0 F cur) e fr) := by
  have hg : g < w.heap.size := (Array.getElem?_eq_some_iff.1 hb).1
  rw [heap_grow_old _ _ (by simpa using hg)]
  simp [putRow, mapBlock, Sort.ahead, Array.getElem?_modify, hb, onCells]
theorem grownBy_sortedV {w : World} {g n : Nat} {os : Array Obj} (F : Array Value) : w.grownBy (grow (putRow id (Sort.ahead w n) g 0 F) os) (some g) := by
  refine ⟨rfl, rfl, rfl, by simp, fun k hk hne => ?_⟩
  rw [heap_grow_old _ _ (by simpa using hk)]
  have : g ≠ k := fun e => hne (by rw [e])
  simp [putRow, mapBlock, Sort.ahead, Array.getElem?_modify, this]
theorem take_putCellsV (cur F : Array Value) (h : F.size ≤ cur.size) : (putCells id 0 F cur).toList.take F.size = F.toList := by
  apply List.ext_getElem?
  intro j
  by_cases hj : j < F.size
  · rw [List.getElem?_take_of_lt hj, Array.getElem?_toList, Array.getElem?_toList]
    simp [putCells, hj, show j < cur.size by omega]
  · rw [List.getElem?_take_eq_none (by omega), List.getElem?_eq_none (by simp; omega)]
theorem grow3 (w : World) (o1 o2 o3 : Obj) (q : Nat) : (((w.alloc o1).alloc o2).drewN q).alloc o3 = grow (w.drewN q) #[o1, o2, o3] := by
  rw [alloc_eq_grow w o1, alloc_eq_grow (grow w _) o2, grow_grow, alloc_eq_grow]
  show grow (grow (w.drewN q) _) _ = _
  rw [grow_grow]; rfl
def wqC (x : Wq) (q : Nat) : Value := (wqE x)[q]!
theorem div_add5 {j q : Nat} (hq : q < 5) : (j * 5 + q) / 5 = j ∧ (j * 5 + q) % 5 = q := by omega
theorem cmpLaysW (blk off size : Nat) (w : World) : CmpLays Try.prog 41 #[] wqE 5 cQ blk off size w :=
  fun _ _ _ _ x y => (louder_any x.1.n x.1.r x.2.1 x.2.2.1 x.2.2.2 x.1.l x.1.d y.1.n y.1.r y.2.1 y.2.2.1 y.2.2.2 y.1.l y.1.d _).mono (fun e w' ⟨he, q, o1, o2, o3, hw⟩ => ⟨he, q, #[o1, o2, o3], by
    rw [hw]; exact grow3 _ o1 o2 o3 q⟩)
set_option maxHeartbeats 1000000 in
theorem sortW_any (base g n cap : Nat) (ds : List Wq) (w : World) (h : OwnE 5 wqC w base 48 (.slice (some ⟨g, 0, none⟩) n cap) ds) (hn : ds.length = n) (hsz : n ≤ 1000) :
    Calls Try.prog 40 #[.slice (some ⟨g, 0, none⟩) n cap, .func (.func 41) #[] #[]] w fun e w' => e = .returned (.tuple #[]) ∧ ∃ ds' : List Wq, ds'.Perm ds ∧ ds'.Pairwise (fun x y => ltOf cQ y x = false) ∧ OwnE 5 wqC w' base 48 (.slice (some ⟨g, 0, none⟩) n cap) ds' ∧ w.grownBy w' (some g) := by
  have hl := h.lies g rfl
  have hH : HoldsK wqE 5 w g 0 ds.toArray := by
    intro j hj
    have hj' : j < n * 5 := by rw [size_flatK] at hj; simpa [hn] using hj
    have hc := h.here hn (j / 5) (by omega) (j % 5) (by omega)
    rw [get_flatK _ _ _ _ (by simpa [hn] using hj'), Nat.zero_add]
    rw [show j / 5 * 5 + j % 5 = j by omega] at hc
    refine ⟨?_, hc.2⟩
    rw [hc.1]
    have e : ds.toArray[j / 5]! = elAt ds (j / 5) := by
      have : j / 5 < ds.length := by omega
      simp [elAt, this]
    rw [e]; rfl
  have eg : ∀ args w, (callFunc 41 args).run Try.prog w = .ok (.enter 41 args) w := enters_of Try.func41 (by kernel_rfl) rfl
  have hcon := AnyQ.slices_SortFunc laySortWr 5 Try.isAgg48 Try.sizeOf48 wqE (fun _ => rfl) (fun x v hv => by simp [wqE] at hv; rcases hv with rfl | rfl | rfl | rfl | rfl <;> rfl) cQ ltW_swo 41 #[] g 0 cap ds.toArray w eg (cmpLaysW g 0 ds.toArray.size w) hH hl.2 (by simp; omega)
  change Calls Try.prog 40 _ _ _ at hcon
  have hsz' : ds.toArray.size = n := by simp [hn]
  rw [hsz'] at hcon
  refine hcon.mono ?_
  rintro e w' ⟨rfl, d', m, os, hp, hs, rfl⟩
  have hd' : d'.size = n := by have := hp.1; rw [hsz'] at this; exact this
  have hF : (flatK wqE 5 d').size = n * 5 := by rw [size_flatK, hd']
  refine ⟨rfl, d'.toList, ?_, ?_, ?_, grownBy_sortedV _⟩
  · have := hp.2.2
    rw [show (d'.extract 0 n) = d' by rw [← hd']; simp, show (ds.toArray.extract 0 n) = ds.toArray by rw [← hsz']; simp] at this
    simpa using this
  · rw [List.pairwise_iff_getElem]
    intro i j hi hj hij
    have hi' : i < d'.size := by simpa using hi
    have hj' : j < d'.size := by simpa using hj
    have := hs i j (Nat.zero_le _) hij (by omega)
    simpa [hi', hj'] using this
  · obtain ⟨vs, hown, hvx⟩ := h.own
    rcases hown.2 with ⟨hnil, _⟩ | ⟨g', cap', cur, he, hbase, hb, h1, h2, h3, h4⟩
    · cases hnil
    · simp only [Value.slice.injEq, Option.some.injEq, Addr.mk.injEq, and_true] at he
      obtain ⟨rfl, hne, rfl⟩ := he
      refine ⟨⟨(flatK wqE 5 d').toList, ⟨by simp [hF, hd'], .inr ⟨g, cap, _, by simp [hd'], hbase, heap_sortedV _ hb, by simp [hd']; omega, h2, by simp [putCells, h3], ?_⟩⟩, fun j hj q hq => ?_⟩⟩
      · have := take_putCellsV cur (flatK wqE 5 d') (by rw [hF]; omega)
        rw [hF] at this
        simpa [hd'] using this
      · have hj' : j < d'.size := by simpa using hj
        have hlt : j * 5 + q < d'.size * 5 := by omega
        have e := get_flatK wqE 5 d' (j * 5 + q) hlt
        have hlt2 : j * 5 + q < (flatK wqE 5 d').size := by rw [hF]; omega
        rw [Array.getElem?_toList, Array.getElem?_eq_getElem hlt2]
        congr 1
        rw [getElem!_pos (flatK wqE 5 d') (j * 5 + q) hlt2] at e
        rw [e, (div_add5 hq).1, (div_add5 hq).2]
        have e2 : elAt d'.toList j = d'[j]! := by simp [elAt, hj']
        rw [e2]; rfl

end Go.Proofs.Ytfehfocfoegbdaa

namespace Go.Proofs.Ytfehfocfoegbdaa
open Go

theorem sLt_tri' {x y : ByteArray} (h1 : sLt x y = false) (h2 : ¬ x = y) : sLt y x = true := by
  have := sLt_or x y
  rw [h1] at this
  simp only [Bool.not_false, Bool.or_eq_true] at this
  rcases this with h | h
  · exact h
  · exact absurd (sEq_eq.1 h).symm h2
/-- The rules of a rank that are told. -/
def tlR (rs : List Wr) (P : Wr → Bool) (rk : Int) : List Wr := rs.filter (fun p => P p && decide (p.r = rk))
def tlL (rs : List Wr) (P : Wr → Bool) : List Wr := tlR rs P 3 ++ tlR rs P 2 ++ tlR rs P 1
theorem wr_pair {rs : List Wr} (h : riseS (wrN rs) = true) : rs.Pairwise (fun p q => sLt p.n q.n = true) := by
  have := rise_pair.1 h
  unfold wrN at this
  exact List.pairwise_map.1 this
theorem tlR_pair {rs : List Wr} {P : Wr → Bool} {rk : Int} (h : riseS (wrN rs) = true) : (tlR rs P rk).Pairwise (fun p q => ltW p q = true) := by
  have h1 : (tlR rs P rk).Pairwise (fun p q => sLt p.n q.n = true) := (wr_pair h).sublist List.filter_sublist
  refine h1.imp_of_mem (fun {a b} ha hb hab => ?_)
  have ea : a.r = rk := by have := (List.mem_filter.1 ha).2; simp only [Bool.and_eq_true, decide_eq_true_eq] at this; exact this.2
  have eb : b.r = rk := by have := (List.mem_filter.1 hb).2; simp only [Bool.and_eq_true, decide_eq_true_eq] at this; exact this.2
  unfold ltW
  rw [hab, ea, eb]; simp
theorem tlR_rank {rs : List Wr} {P : Wr → Bool} {rk : Int} {p : Wr} (h : p ∈ tlR rs P rk) : p.r = rk := by
  have := (List.mem_filter.1 h).2; simp only [Bool.and_eq_true, decide_eq_true_eq] at this; exact this.2
theorem tlL_pair {rs : List Wr} {P : Wr → Bool} (h : riseS (wrN rs) = true) : (tlL rs P).Pairwise (fun p q => ltW p q = true) := by
  unfold tlL
  rw [List.pairwise_append, List.pairwise_append]
  refine ⟨⟨tlR_pair h, tlR_pair h, fun a ha b hb => ?_⟩, tlR_pair h, fun a ha b hb => ?_⟩
  · have := tlR_rank ha; have := tlR_rank hb
    unfold ltW
    rw [show decide (b.r < a.r) = true by simp; omega]; rfl
  · have hb := tlR_rank hb
    have ha : 2 ≤ a.r := by
      rcases List.mem_append.1 ha with ha | ha
      · have := tlR_rank ha; omega
      · have := tlR_rank ha; omega
    unfold ltW
    rw [show decide (b.r < a.r) = true by simp; omega]; rfl
theorem tlL_mem {rs : List Wr} {P : Wr → Bool} (hr : ∀ p ∈ rs, 1 ≤ p.r ∧ p.r ≤ 3) {p : Wr} : p ∈ tlL rs P ↔ p ∈ rs ∧ P p = true := by
  unfold tlL tlR
  simp only [List.mem_append, List.mem_filter, Bool.and_eq_true, decide_eq_true_eq]
  constructor
  · rintro ((⟨h1, h2, _⟩ | ⟨h1, h2, _⟩) | ⟨h1, h2, _⟩) <;> exact ⟨h1, h2⟩
  · rintro ⟨h1, h2⟩
    have := hr p h1
    rcases (show p.r = 3 ∨ p.r = 2 ∨ p.r = 1 by omega) with h | h | h
    · exact .inl (.inl ⟨h1, h2, h⟩)
    · exact .inl (.inr ⟨h1, h2, h⟩)
    · exact .inr ⟨h1, h2, h⟩
theorem ltW_as {p q : Wr} (h1 : ltW p q = true) (h2 : ltW q p = true) : False := by
  unfold ltW at *
  simp only [Bool.or_eq_true, Bool.and_eq_true, decide_eq_true_eq] at *
  rcases h1 with h1 | ⟨h1, g1⟩ <;> rcases h2 with h2 | ⟨h2, g2⟩
  · omega
  · omega
  · omega
  · have := sLt_trans g1 g2; rw [sLt_irr] at this; cases this
theorem ltW_tot {p q : Wr} (hn : ¬ p.n = q.n) (h : ltW q p = false) : ltW p q = true := by
  unfold ltW at *
  simp only [Bool.or_eq_false_iff, decide_eq_false_iff_not] at h
  simp only [Bool.or_eq_true, Bool.and_eq_true, decide_eq_true_eq]
  by_cases c : q.r < p.r
  · exact .inl c
  · have e : p.r = q.r := by omega
    refine .inr ⟨e.symm, ?_⟩
    have h2 := h.2
    rw [show decide (p.r = q.r) = true by simp [e], Bool.true_and] at h2
    exact sLt_tri' h2 (fun k => hn k.symm)
/-- Found in whatever order, then sorted. -/
theorem tlL_of {rs : List Wr} {P : Wr → Bool} (h : riseS (wrN rs) = true) (hr : ∀ p ∈ rs, 1 ≤ p.r ∧ p.r ≤ 3) {ds : List Wq} (hs : ds.Pairwise (fun x y => ltOf cQ y x = false)) (hd : ds.Pairwise (fun x y => ¬ x.1.n = y.1.n)) (hm : ∀ p, p ∈ ds.map Prod.fst ↔ p ∈ rs ∧ P p = true) : ds.map Prod.fst = tlL rs P := by
  have h1 : (ds.map Prod.fst).Pairwise (fun p q => ltW p q = true) := by
    rw [List.pairwise_map]
    refine (hs.and hd).imp (fun {a b} hab => ltW_tot hab.2 ?_)
    have := hab.1
    unfold ltOf cQ at this
    rw [cL_lt] at this
    exact this
  have nd : ∀ {l : List Wr}, l.Pairwise (fun p q => ltW p q = true) → l.Nodup := fun {l} hl => hl.imp (fun {a b} hab e => by rw [e] at hab; exact ltW_as hab hab)
  refine List.Perm.eq_of_pairwise (le := fun p q => ltW p q = true) (fun a b _ _ k1 k2 => (ltW_as k1 k2).elim) h1 (tlL_pair h) ((List.perm_ext_iff_of_nodup (nd h1) (nd (tlL_pair h))).2 (fun p => ?_))
  rw [hm p, tlL_mem hr]

end Go.Proofs.Ytfehfocfoegbdaa
