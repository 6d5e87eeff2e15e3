/-
  What is plain of deeds on a fleet that is so: it stays so; cycles pass only in a flight that is released; a task just done is not due. No program here.
  What there is between two deeds of FnReleased: the fleet now, in its block; where the next one lies. No condition.
-/
import Derived.Test.YticdccdkjepifaaGreatMRlIx
import Derived.Test.YticdccdkjepifaaGreatMFlIn
import Derived.Test.YticdccdkjepifaaGreatMOnly
import Derived.Test.YticdccdkjepifaaGreatMTaPure

namespace Go.Proofs.YticdccdkjepifaaGreat
open Go Go.RowKit

theorem rise_pair {zs : List Int} (h : riseB zs = true) : zs.Pairwise (· < ·) := by
  have a : ∀ i, i < zs.length - 1 → nth zs i < nth zs (i + 1) := of_decide_eq_true h
  have b : ∀ m i, i + m + 1 < zs.length → nth zs i < nth zs (i + m + 1) := by
    intro m
    induction m with
    | zero => intro i hi; exact a i (by omega)
    | succ m ih => intro i hi; exact Int.lt_trans (ih i (by omega)) (a (i + m + 1) (by omega))
  rw [List.pairwise_iff_getElem]
  intro i j hi hj hij
  have := b (j - i - 1) i (by omega)
  rw [show i + (j - i - 1) + 1 = j by omega] at this
  simpa [nth, hi, hj] using this
theorem pair_rise {zs : List Int} (h : zs.Pairwise (· < ·)) : riseB zs = true := by
  refine decide_eq_true (fun i hi => ?_)
  rw [List.pairwise_iff_getElem] at h
  have := h i (i + 1) (by omega) (by omega) (by omega)
  simpa [nth, show i < zs.length by omega, show i + 1 < zs.length by omega] using this
theorem plR_take (it : Int) : ∀ ds : List Df, ∀ x ∈ ds.take (plR it ds), x.i < it
  | [], x, hx => by simp at hx
  | d :: r, x, hx => by
    rw [plR] at hx
    split at hx
    · rename_i c
      rw [List.take_succ_cons, List.mem_cons] at hx
      rcases hx with hx | hx
      · rw [hx]; exact c
      · exact plR_take it r x hx
    · simp at hx
theorem plR_head (it : Int) : ∀ ds : List Df, plR it ds < ds.length → it ≤ (elAt ds (plR it ds)).i
  | [], h => by simp at h
  | d :: r, h => by
    rw [plR] at h ⊢
    split
    · rename_i c
      rw [if_pos c] at h
      have := plR_head it r (by simpa using h)
      simpa [elAt] using this
    · rename_i c
      simp [elAt]
      omega
theorem mem_el {α : Type} [Inhabited α] {xs : List α} {x : α} (h : x ∈ xs) : ∃ i, i < xs.length ∧ elAt xs i = x := by
  obtain ⟨i, hi, e⟩ := List.getElem_of_mem h
  exact ⟨i, hi, by simp [elAt, hi, e]⟩
theorem el_mem {α : Type} [Inhabited α] {xs : List α} {i : Nat} (h : i < xs.length) : elAt xs i ∈ xs := by
  have e : elAt xs i = xs[i] := by simp [elAt, h]
  rw [e]; exact List.getElem_mem h
/-- A list of defects, as FleetOk asks, by its elements. -/
theorem listI_by {nd : Int} {ds : List Df} : listI 20 (dkB nd) (fun x : Df => x.i) ds = true ↔ ds.length ≤ 20 ∧ (∀ x ∈ ds, dkB nd x = true) ∧ (ds.map (fun x : Df => x.i)).Pairwise (· < ·) := by
  constructor
  · intro h
    obtain ⟨a, b, c⟩ := listI_facts h
    exact ⟨a, fun x hx => by obtain ⟨i, hi, e⟩ := mem_el hx; rw [← e]; exact b i hi, rise_pair c⟩
  · rintro ⟨a, b, c⟩
    rw [listI_all a (fun i hi => b _ (el_mem hi))]
    exact pair_rise c
theorem dk_ins {nd it : Int} {ds : List Df} {x : Df} (h : listI 20 (dkB nd) (fun x : Df => x.i) ds = true) (hx : dkB nd x = true) (hi : x.i = it) (hl : ds.length < 20) (ha : atI ds it = false) : listI 20 (dkB nd) (fun x : Df => x.i) (ds.take (plR it ds) ++ x :: ds.drop (plR it ds)) = true := by
  obtain ⟨_, h2, h3⟩ := listI_by.1 h
  have hp := plR_le it ds
  rw [listI_by]
  have hd : ∀ y ∈ ds.drop (plR it ds), it < y.i := by
    intro y hy
    obtain ⟨q, hq, e⟩ := mem_el hy
    rw [List.length_drop] at hq
    have e1 : y = elAt ds (plR it ds + q) := by rw [← e]; simp [elAt]
    have hlt : plR it ds < ds.length := by omega
    have g1 := plR_head it ds hlt
    have g2 : (elAt ds (plR it ds)).i ≠ it := fun e => by
      have := of_decide_eq_false (show decide (plR it ds < ds.length ∧ (elAt ds (plR it ds)).i = it) = false from ha)
      exact this ⟨hlt, e⟩
    rcases Nat.eq_zero_or_pos q with z | z
    · rw [e1, z, Nat.add_zero]; omega
    · rw [List.pairwise_iff_getElem] at h3
      have := h3 (plR it ds) (plR it ds + q) (by simpa using hlt) (by simp; omega) (by omega)
      simp only [List.getElem_map] at this
      rw [e1]
      have u1 : elAt ds (plR it ds) = ds[plR it ds] := by simp [elAt, hlt]
      have u2 : elAt ds (plR it ds + q) = ds[plR it ds + q]'(by omega) := by simp [elAt, show plR it ds + q < ds.length by omega]
      rw [u1] at g1 g2
      rw [u2]
      omega
  refine ⟨by simp; omega, fun y hy => ?_, ?_⟩
  · rcases List.mem_append.1 hy with hy | hy
    · exact h2 y (List.mem_of_mem_take hy)
    · rcases List.mem_cons.1 hy with hy | hy
      · rw [hy]; exact hx
      · exact h2 y (List.mem_of_mem_drop hy)
  · rw [List.map_append, List.map_cons, List.pairwise_append]
    refine ⟨?_, ?_, ?_⟩
    · rw [List.map_take]; exact h3.sublist (List.take_sublist _ _)
    · rw [List.pairwise_cons]
      refine ⟨fun z hz => ?_, ?_⟩
      · obtain ⟨y, hy, rfl⟩ := List.mem_map.1 hz
        rw [hi]; exact hd y hy
      · rw [List.map_drop]; exact h3.sublist (List.drop_sublist _ _)
    · intro z hz y hy
      obtain ⟨z', hz', rfl⟩ := List.mem_map.1 hz
      have q1 := plR_take it ds z' hz'
      rcases List.mem_cons.1 hy with hy | hy
      · rw [hy, hi]; exact q1
      · obtain ⟨y', hy', rfl⟩ := List.mem_map.1 hy
        have := hd y' hy'
        omega
theorem dk_del {nd : Int} {ds : List Df} (p : Nat) (h : listI 20 (dkB nd) (fun x : Df => x.i) ds = true) : listI 20 (dkB nd) (fun x : Df => x.i) (ds.take p ++ ds.drop (p + 1)) = true := by
  obtain ⟨h1, h2, h3⟩ := listI_by.1 h
  rw [listI_by]
  have hs : (ds.take p ++ ds.drop (p + 1)).Sublist ds := by
    have := List.take_append_drop p ds
    conv => rhs; rw [← this]
    refine List.Sublist.append (List.Sublist.refl _) ?_
    rw [show ds.drop (p + 1) = (ds.drop p).drop 1 by rw [List.drop_drop, Nat.add_comm]]
    exact List.drop_sublist _ _
  exact ⟨Nat.le_trans hs.length_le h1, fun x hx => h2 x (hs.mem hx), h3.sublist (hs.map _)⟩
theorem tk_mono {nh nc nd nh' nc' nd' : Int} {t : Ts} (h : tkB nh nc nd t = true) (h1 : nh ≤ nh') (h2 : nc ≤ nc') (h3 : nd ≤ nd') : tkB nh' nc' nd' t = true := by
  simp only [tkB, bhB, Bool.and_eq_true, decide_eq_true_eq] at h ⊢
  exact ⟨h.1, ⟨by omega, by omega⟩, by omega⟩
theorem dk_mono {nd nd' : Int} {d : Df} (h : dkB nd d = true) (h1 : nd ≤ nd') : dkB nd' d = true := by
  simp only [dkB, inB, Bool.and_eq_true, decide_eq_true_eq] at h ⊢
  exact ⟨h.1, by omega⟩
theorem listS_mono {most : Nat} {P Q : Ts → Bool} {xs : List Ts} (h : listS most P (fun x : Ts => x.nm) xs = true) (hPQ : ∀ x, P x = true → Q x = true) : listS most Q (fun x : Ts => x.nm) xs = true := by
  obtain ⟨a, b, c⟩ := listS_facts h
  rw [listS_all a (fun i hi => hPQ _ (b i hi))]
  exact c
theorem listI_mono {most : Nat} {P Q : Df → Bool} {xs : List Df} (h : listI most P (fun x : Df => x.i) xs = true) (hPQ : ∀ x, P x = true → Q x = true) : listI most Q (fun x : Df => x.i) xs = true := by
  obtain ⟨a, b, c⟩ := listI_facts h
  rw [listI_all a (fun i hi => hPQ _ (b i hi))]
  exact c
theorem flB_by {f : Fl} (a1 : ckB f.nh f.nc f.nd = true) (a2 : caB f.cs = true) (a3 : listS 40 (tkB f.nh f.nc f.nd) (fun x : Ts => x.nm) f.ts = true) (a4 : listI 20 (dkB f.nd) (fun x : Df => x.i) f.ds = true) : flB f = true := by
  show (ckB f.nh f.nc f.nd && caB f.cs && listS 40 (tkB f.nh f.nc f.nd) (fun x : Ts => x.nm) f.ts && listI 20 (dkB f.nd) (fun x : Df => x.i) f.ds) = true
  rw [a1, a2, a3, a4]; rfl
/-- What a deed that is done says, by its kind. -/
theorem dw_kind {f : Fl} {d : De} (h : dwB f d = true) : flB f = true ∧ ((d.k = 1 ∧ flyB f d = true) ∨ (d.k = 2 ∧ tskB f d = true) ∨ (d.k = 3 ∧ fndB f d = true) ∨ (d.k = 4 ∧ atI f.ds d.i = true) ∨ (d.k = 5 ∧ dayB f d = true)) := by
  simp only [dwB, Bool.and_eq_true, Bool.or_eq_true, decide_eq_true_eq] at h
  refine ⟨h.1, ?_⟩
  rcases h.2 with (((h | h) | h) | h) | h
  · exact .inl h
  · exact .inr (.inl h)
  · exact .inr (.inr (.inl h))
  · exact .inr (.inr (.inr (.inl h)))
  · exact .inr (.inr (.inr (.inr h)))
theorem dwF_at {f : Fl} {d : De} (h : dwB f d = true) : dwF f d = if d.k = 1 then ⟨f.ts, f.cs, f.ds, f.nh + d.m, f.nc + 1, f.nd⟩
  else if d.k = 2 then ⟨f.ts.set (ixE (qTs d.n) f.ts).toNat (dnT f (elAt f.ts (ixE (qTs d.n) f.ts).toNat)), f.cs, f.ds, f.nh, f.nc, f.nd⟩
  else if d.k = 3 then ⟨f.ts, f.cs, f.ds.take (plR d.i f.ds) ++ ⟨d.n, d.i, f.nd⟩ :: f.ds.drop (plR d.i f.ds), f.nh, f.nc, f.nd⟩
  else if d.k = 4 then ⟨f.ts, f.cs, f.ds.take (plR d.i f.ds) ++ f.ds.drop (plR d.i f.ds + 1), f.nh, f.nc, f.nd⟩
  else ⟨f.ts, f.cs, f.ds, f.nh, f.nc, f.nd + d.m⟩ := by
  rw [dwF, if_neg (by rw [h]; simp)]
/-- The task that is done, its place. -/
theorem tsk_at {f : Fl} {d : De} (h : tskB f d = true) : ∃ k, k < f.ts.length ∧ (ixE (qTs d.n) f.ts).toNat = k ∧ (elAt f.ts k).nm = d.n := by
  obtain ⟨k, a, b, c⟩ := ixE_pos (P := qTs d.n) (xs := f.ts) (of_decide_eq_true h)
  exact ⟨k, a, by rw [b]; simp, of_decide_eq_true c⟩
theorem set_names {ts : List Ts} {k : Nat} {t : Ts} (hk : k < ts.length) (h : t.nm = (elAt ts k).nm) : (ts.set k t).map (fun x : Ts => x.nm) = ts.map (fun x : Ts => x.nm) := by
  rw [List.map_set]
  refine List.ext_getElem (by simp) (fun i h1 h2 => ?_)
  rw [List.getElem_set]
  split
  · rename_i e
    subst e
    simp [h, elAt, hk]
  · rfl
theorem done_tk {f : Fl} (hf : flB f = true) {k : Nat} (hk : k < f.ts.length) : tkB f.nh f.nc f.nd (dnT f (elAt f.ts k)) = true := by
  obtain ⟨h1, _, h3, _⟩ := flB_facts hf
  have q := (listS_facts h3).2.1 k hk
  simp only [tkB, tsB, bhB, Bool.and_eq_true, decide_eq_true_eq] at q ⊢
  obtain ⟨⟨⟨⟨⟨⟨q1, q2⟩, q3⟩, q4⟩, q5⟩, q6⟩, _⟩ := q
  exact ⟨⟨⟨⟨⟨⟨q1, q2⟩, q3⟩, q4⟩, q5⟩, h1⟩, ⟨Int.le_refl _, Int.le_refl _⟩, Int.le_refl _⟩
/-- A deed keeps a fleet in order. -/
theorem dw_keeps {f : Fl} {d : De} (hf : flB f = true) : flB (dwF f d) = true := by
  cases hB : dwB f d
  · rw [dwF, if_pos hB]; exact hf
  obtain ⟨a1, a2, a3, a4⟩ := flB_facts hf
  have c1 := ckB_facts a1
  rw [dwF_at hB]
  rcases (dw_kind hB).2 with ⟨k, h⟩ | ⟨k, h⟩ | ⟨k, h⟩ | ⟨k, h⟩ | ⟨k, h⟩
  · simp only [flyB, inB, Bool.and_eq_true, decide_eq_true_eq] at h
    rw [if_pos k]
    exact flB_by h.2 a2 (listS_mono a3 (fun x hx => tk_mono hx (by show f.nh ≤ f.nh + d.m; omega) (by show f.nc ≤ f.nc + 1; omega) (Int.le_refl _))) a4
  · obtain ⟨q, hq, e, hn⟩ := tsk_at h
    rw [if_neg (by omega), if_pos k, e]
    obtain ⟨b1, b2, b3⟩ := listS_facts a3
    refine flB_by a1 a2 ?_ a4
    show listS 40 (tkB f.nh f.nc f.nd) (fun x : Ts => x.nm) (f.ts.set q (dnT f (elAt f.ts q))) = true
    rw [listS_all (by simpa using b1) (fun i hi => ?_)]
    · rw [set_names (t := dnT f (elAt f.ts q)) hq rfl]; exact b3
    · rw [elAt_set _ _ _ _ hq]
      split
      · exact done_tk hf hq
      · exact b2 i (by simpa using hi)
  · simp only [fndB, Bool.and_eq_true, Bool.not_eq_eq_eq_not, Bool.not_true, decide_eq_true_eq] at h
    rw [if_neg (by omega), if_neg (by omega), if_pos k]
    exact flB_by a1 a2 a3 (dk_ins a4 h.1.2 rfl h.2 h.1.1)
  · rw [if_neg (by omega), if_neg (by omega), if_neg (by omega), if_pos k]
    exact flB_by a1 a2 a3 (dk_del _ a4)
  · simp only [dayB, inB, Bool.and_eq_true, decide_eq_true_eq] at h
    rw [if_neg (by omega), if_neg (by omega), if_neg (by omega), if_neg (by omega)]
    exact flB_by h.2 a2 (listS_mono a3 (fun x hx => tk_mono hx (Int.le_refl _) (Int.le_refl _) (by show f.nd ≤ f.nd + d.m; omega))) (listI_mono a4 (fun x hx => dk_mono hx (by show f.nd ≤ f.nd + d.m; omega)))
/-- Cycles pass only in a flight that is released. -/
theorem dw_cycles {f : Fl} {d : De} (h : (dwF f d).nc ≠ f.nc) : (rlR f).1 = 0 := by
  cases hB : dwB f d
  · rw [dwF, if_pos hB] at h; exact absurd rfl h
  rw [dwF_at hB] at h
  rcases (dw_kind hB).2 with ⟨k, q⟩ | ⟨k, q⟩ | ⟨k, q⟩ | ⟨k, q⟩ | ⟨k, q⟩
  · simp only [flyB, Bool.and_eq_true, decide_eq_true_eq] at q
    exact q.1.1
  · rw [if_neg (by omega), if_pos k] at h; exact absurd rfl h
  · rw [if_neg (by omega), if_neg (by omega), if_pos k] at h; exact absurd rfl h
  · rw [if_neg (by omega), if_neg (by omega), if_neg (by omega), if_pos k] at h; exact absurd rfl h
  · rw [if_neg (by omega), if_neg (by omega), if_neg (by omega), if_neg (by omega)] at h; exact absurd rfl h
theorem dw_hours {f : Fl} {d : De} (hB : dwB f d = true) (k : d.k = 1) : (dwF f d).nh = f.nh + d.m := by rw [dwF_at hB, if_pos k]
/-- A task just done: it is there, it can be asked, it is not due. -/
theorem dw_task {f : Fl} {d : De} (hB : dwB f d = true) (k : d.k = 2) : (∃ q, q < (dwF f d).ts.length ∧ (elAt (dwF f d).ts q).nm = d.n) ∧
    ∀ j, j < (dwF f d).ts.length → (elAt (dwF f d).ts j).nm = d.n → d9D (elAt (dwF f d).ts j) (dwF f d).nh (dwF f d).nc (dwF f d).nd = false ∧ d9B (elAt (dwF f d).ts j) (dwF f d).nh (dwF f d).nc (dwF f d).nd = true ∧ tsB (elAt (dwF f d).ts j) = true := by
  have hf := (dw_kind hB).1
  have hk := dw_keeps (d := d) hf
  have ht : tskB f d = true := by
    rcases (dw_kind hB).2 with ⟨z, q⟩ | ⟨_, q⟩ | ⟨z, q⟩ | ⟨z, q⟩ | ⟨z, q⟩
    · omega
    · exact q
    · omega
    · omega
    · omega
  obtain ⟨q, hq, e, hn⟩ := tsk_at ht
  have eF : dwF f d = ⟨f.ts.set q (dnT f (elAt f.ts q)), f.cs, f.ds, f.nh, f.nc, f.nd⟩ := by rw [dwF_at hB, if_neg (by omega), if_pos k, e]
  rw [eF] at hk ⊢
  have el : elAt (f.ts.set q (dnT f (elAt f.ts q))) q = dnT f (elAt f.ts q) := by rw [elAt_set _ _ _ _ hq, if_pos rfl]
  have hql : q < (f.ts.set q (dnT f (elAt f.ts q))).length := by simpa using hq
  have hqn : (elAt (f.ts.set q (dnT f (elAt f.ts q))) q).nm = d.n := by rw [el]; exact hn
  refine ⟨⟨q, hql, hqn⟩, fun j hj hjn => ?_⟩
  have hj' : j = q := fl_once hk hj hql (by rw [hjn]; exact hqn.symm)
  subst hj'
  have b := (fl_task hk hql).1
  refine ⟨?_, b, ?_⟩
  · show d9D (elAt (f.ts.set j (dnT f (elAt f.ts j))) j) f.nh f.nc f.nd = false
    rw [el]
    rw [d9D, Bool.and_eq_false_iff]
    right
    rw [Bool.or_eq_false_iff, Bool.or_eq_false_iff]
    exact ⟨⟨decide_eq_false (by show ¬ (0 < (elAt f.ts j).h ∧ (elAt f.ts j).h ≤ f.nh - f.nh); omega), decide_eq_false (by show ¬ (0 < (elAt f.ts j).c ∧ (elAt f.ts j).c ≤ f.nc - f.nc); omega)⟩, decide_eq_false (by show ¬ (0 < (elAt f.ts j).d ∧ (elAt f.ts j).d ≤ f.nd - f.nd); omega)⟩
  · have b2 : d9B (elAt (f.ts.set j (dnT f (elAt f.ts j))) j) f.nh f.nc f.nd = true := b
    simp only [d9B, Bool.and_eq_true] at b2
    exact b2.1.1

end Go.Proofs.YticdccdkjepifaaGreat

namespace Go.Proofs.YticdccdkjepifaaGreat
open Go Go.RowKit

/-- The next fleet: its block, its lists in memory of their own. -/
structure NxC (wr : World) (G : Fl) (P g1 q1 g2 q2 g3 q3 m1 m2 m3 : Nat) (W : World) : Prop where
  p : Blk W P [.slice (some ⟨g1, 0, none⟩) m1 q1, .slice (some ⟨g2, 0, none⟩) m2 q2, .slice (some ⟨g3, 0, none⟩) m3 q3, .int .i64 G.nh, .int .i64 G.nc, .int .i64 G.nd]
  o : FlOwn W wr.heap.size (some ⟨g1, 0, none⟩) (some ⟨g2, 0, none⟩) (some ⟨g3, 0, none⟩) m1 q1 m2 q2 m3 q3 G.ts G.cs G.ds
  ge : wr.heap.size ≤ P
  bel : Below wr.heap.size wr W
theorem nxB {wr V w7 : World} {G : Fl} {g1 q1 g2 q2 g3 q3 m1 m2 m3 : Nat} (hV : V = wr ∨ V = wr.drew) (o : FlOwn w7 V.heap.size (some ⟨g1, 0, none⟩) (some ⟨g2, 0, none⟩) (some ⟨g3, 0, none⟩) m1 q1 m2 q2 m3 q3 G.ts G.cs G.ds) (b : Below V.heap.size V w7) : NxC wr G w7.heap.size g1 q1 g2 q2 g3 q3 m1 m2 m3 (w7.alloc (Obj.cells #[.slice (some ⟨g1, 0, none⟩) m1 q1, .slice (some ⟨g2, 0, none⟩) m2 q2, .slice (some ⟨g3, 0, none⟩) m3 q3, .int .i64 G.nh, .int .i64 G.nc, .int .i64 G.nd] 37)) := by
  have hs : V.heap.size = wr.heap.size := by rcases hV with rfl | rfl <;> rfl
  have bV : Below wr.heap.size wr V := by
    rcases hV with rfl | rfl
    · exact Below.refl _ _
    · exact bel0d' 1
  rw [hs] at o b
  have b1 := bV.trans b
  exact ⟨Blk.new [.slice (some ⟨g1, 0, none⟩) m1 q1, .slice (some ⟨g2, 0, none⟩) m2 q2, .slice (some ⟨g3, 0, none⟩) m3 q3, .int .i64 G.nh, .int .i64 G.nc, .int .i64 G.nd] _, o.below (bel1 _), b1.size, b1.alloc b1.size _⟩
theorem nxA {wr V w7 : World} {G : Fl} {g1 q1 g2 q2 g3 q3 m1 m2 m3 : Nat} (hV : V = wr.alloc (Obj.cells #[.slice none 0 0, .slice none 0 0, .slice none 0 0, .int .i64 0, .int .i64 0, .int .i64 0] 37) ∨ V = (wr.alloc (Obj.cells #[.slice none 0 0, .slice none 0 0, .slice none 0 0, .int .i64 0, .int .i64 0, .int .i64 0] 37)).drew) (o : FlOwn w7 V.heap.size (some ⟨g1, 0, none⟩) (some ⟨g2, 0, none⟩) (some ⟨g3, 0, none⟩) m1 q1 m2 q2 m3 q3 G.ts G.cs G.ds) (b : Below V.heap.size V w7) : NxC wr G wr.heap.size g1 q1 g2 q2 g3 q3 m1 m2 m3 ((((((w7.setCell ⟨wr.heap.size, 0, none⟩ (.slice (some ⟨g1, 0, none⟩) m1 q1)).setCell ⟨wr.heap.size, 1, none⟩ (.slice (some ⟨g2, 0, none⟩) m2 q2)).setCell ⟨wr.heap.size, 2, none⟩ (.slice (some ⟨g3, 0, none⟩) m3 q3)).setCell ⟨wr.heap.size, 3, none⟩ (.int .i64 G.nh)).setCell ⟨wr.heap.size, 4, none⟩ (.int .i64 G.nc)).setCell ⟨wr.heap.size, 5, none⟩ (.int .i64 G.nd)) := by
  have hs : V.heap.size = wr.heap.size + 1 := by rcases hV with rfl | rfl <;> simp
  have bV : Below wr.heap.size wr V := by
    rcases hV with rfl | rfl
    · exact bel1 _
    · exact (bel1 (w := wr) _).trans (bel0d' 1)
  have kV : Blk V wr.heap.size [.slice none 0 0, .slice none 0 0, .slice none 0 0, .int .i64 0, .int .i64 0, .int .i64 0] := by
    rcases hV with rfl | rfl
    · exact Blk.new _ _
    · exact (Blk.new (w := wr) [.slice none 0 0, .slice none 0 0, .slice none 0 0, .int .i64 0, .int .i64 0, .int .i64 0] 37).below (bel0d 1)
  have k7 := kV.below b
  have x1 : (Value.slice (some ⟨g1, 0, none⟩) m1 q1).ownBlock ≠ some wr.heap.size := fun e => by have := (o.o1.lies _ e).1; omega
  have x2 : (Value.slice (some ⟨g2, 0, none⟩) m2 q2).ownBlock ≠ some wr.heap.size := fun e => by have := (o.o2.lies _ e).1; omega
  have x3 : (Value.slice (some ⟨g3, 0, none⟩) m3 q3).ownBlock ≠ some wr.heap.size := fun e => by have := (o.o3.lies _ e).1; omega
  refine ⟨?_, ?_, Nat.le_refl _, ?_⟩
  · have := (((((k7.set 0 (by simp) (.slice (some ⟨g1, 0, none⟩) m1 q1)).set 1 (by simp) (.slice (some ⟨g2, 0, none⟩) m2 q2)).set 2 (by simp) (.slice (some ⟨g3, 0, none⟩) m3 q3)).set 3 (by simp) (.int .i64 G.nh)).set 4 (by simp) (.int .i64 G.nc)).set 5 (by simp) (.int .i64 G.nd)
    simpa using this
  · exact ((((((o.set_other _ x1 x2 x3).set_other _ x1 x2 x3).set_other _ x1 x2 x3).set_other _ x1 x2 x3).set_other _ x1 x2 x3).set_other _ x1 x2 x3).mono (by omega)
  · exact ((((((bV.trans (b.mono (by omega))).setCell (p := ⟨wr.heap.size, 0, none⟩) (Nat.le_refl _) _).setCell (p := ⟨wr.heap.size, 1, none⟩) (Nat.le_refl _) _).setCell (p := ⟨wr.heap.size, 2, none⟩) (Nat.le_refl _) _).setCell (p := ⟨wr.heap.size, 3, none⟩) (Nat.le_refl _) _).setCell (p := ⟨wr.heap.size, 4, none⟩) (Nat.le_refl _) _).setCell (p := ⟨wr.heap.size, 5, none⟩) (Nat.le_refl _) _
/-- Whether a task of that name is among the first k. -/
def mdK (ts : List Ts) (n : ByteArray) : Nat → Bool
  | 0 => false
  | k + 1 => mdK ts n k || decide ((elAt ts k).nm = n)
theorem mdK_at {ts : List Ts} {n : ByteArray} {q : Nat} (h : (elAt ts q).nm = n) : ∀ k, q < k → mdK ts n k = true
  | 0, hk => by omega
  | k + 1, hk => by
    rw [mdK]
    by_cases e : q = k
    · subst e; simp [h]
    · rw [mdK_at h k (by omega)]; rfl
/-- The fleet now, between two deeds. -/
structure RlS (W0 : World) (Q : Nat) (F : Fl) (b1 b2 b3 : Option Addr) (l1 l2 l3 p1 p2 p3 : Nat) (W : World) : Prop where
  q : Blk W Q [.slice b1 l1 p1, .slice b2 l2 p2, .slice b3 l3 p3, .int .i64 F.nh, .int .i64 F.nc, .int .i64 F.nd]
  i : FlIn W b1 b2 b3 l1 l2 l3 F.ts F.cs F.ds
  bel : Below W0.heap.size W0 W
  ge : W0.heap.size ≤ Q
theorem RlS.below {W0 : World} {Q : Nat} {F : Fl} {b1 b2 b3 : Option Addr} {l1 l2 l3 p1 p2 p3 : Nat} {W W' : World} (h : RlS W0 Q F b1 b2 b3 l1 l2 l3 p1 p2 p3 W) (b : Below W.heap.size W W') : RlS W0 Q F b1 b2 b3 l1 l2 l3 p1 p2 p3 W' := ⟨h.q.below b, h.i.below b, h.bel.trans (b.mono h.bel.size), h.ge⟩

end Go.Proofs.YticdccdkjepifaaGreat
