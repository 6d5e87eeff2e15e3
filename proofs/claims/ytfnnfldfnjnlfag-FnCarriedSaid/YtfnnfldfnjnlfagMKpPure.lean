/-
  The sums by which FnKept looks at rows and items, and that a fleet that is so has texts that can be there. No program here.
  What is due next, in plain lists. No program here.
  What is plain of a fleet that is so: each task can be asked; what Release lets fly has no task due and each defect on the list; the next one due. No program here.
-/
import Derived.Test.YtfnnfldfnjnlfagMFlIn
import Derived.Test.YtfnnfldfnjnlfagMRowS
import Derived.Test.YtfnnfldfnjnlfagMaPure

namespace Go.Proofs.Ytfnnfldfnjnlfag
open Go Go.RowKit

def kpS (s x : Int) : Int := wrap64 (wrap64 (s * 31) + x)
def kpJ (r : List Int) (s : Int) : Nat → Int
  | 0 => s
  | k + 1 => kpS (kpJ r s k) (nth r k)
def kpI (z : List (List Int)) : Nat → Int
  | 0 => 0
  | i + 1 => kpJ (nthS z i) (kpI z i) (nthS z i).length
def itI (ds : List Df) : Nat → Int
  | 0 => 0
  | k + 1 => kpS (itI ds k) (elAt ds k).i
theorem nameB_fit {x : ByteArray} (h : nameB x = true) : fitT x := by
  simp only [nameB, inB, Bool.and_eq_true, decide_eq_true_eq] at h
  unfold fitT
  omega
theorem fit_at {α : Type} [Inhabited α] {xs : List α} {key : α → ByteArray} (hd : fitT (key default)) (h : ∀ i, i < xs.length → fitT (key (elAt xs i))) (i : Nat) : fitT (key (elAt xs i)) := by
  rcases Nat.lt_or_ge i xs.length with hi | hi
  · exact h i hi
  · have : elAt xs i = default := by unfold elAt; rw [List.getElem?_eq_none hi]; rfl
    rw [this]; exact hd
/-- A fleet that is so has texts that can be there. -/
theorem flB_fit {f : Fl} (h : flB f = true) : FitF f := by
  obtain ⟨_, h2, h3, h4⟩ := flB_facts h
  have e0 : fitT (⟨#[]⟩ : ByteArray) := by unfold fitT; decide
  have q3 := (listS_facts h3).2.1
  have q2 := (listS_facts h2).2.1
  have q4 := (listI_facts h4).2.1
  refine ⟨fit_at (key := fun x : Ts => x.nm) e0 (fun i hi => ?_), fit_at (key := fun x : Cr => x.n) e0 (fun i hi => ?_), fit_at (key := fun x : Df => x.n) e0 (fun i hi => ?_)⟩
  · have k := q3 i hi
    simp only [tkB, tsB, Bool.and_eq_true] at k
    exact nameB_fit k.1.1.1.1.1.1
  · have k := q2 i hi
    simp only [crB, Bool.and_eq_true] at k
    exact nameB_fit k.1.1
  · have k := q4 i hi
    simp only [dkB, Bool.and_eq_true] at k
    exact nameB_fit k.1.1
theorem flB_len {f : Fl} (h : flB f = true) : f.ts.length ≤ 40 ∧ f.cs.length ≤ 20 ∧ f.ds.length ≤ 20 := by
  obtain ⟨_, h2, h3, h4⟩ := flB_facts h
  exact ⟨(listS_facts h3).1, (listS_facts h2).1, (listI_facts h4).1⟩

end Go.Proofs.Ytfnnfldfnjnlfag

namespace Go.Proofs.Ytfnnfldfnjnlfag
open Go Go.RowKit

theorem nx_no {f : Fl} (h : flB f = false) : nxR f = (⟨#[]⟩, 0, false) := by simp [nxR, h]
theorem nx_yes {f : Fl} (h : flB f = true) : nxR f = nxK f f.ts.length := by simp [nxR, h]
theorem nx_take {f : Fl} {k : Nat} (h : d9D (elAt f.ts k) f.nh f.nc f.nd = false) (h2 : 0 < (elAt f.ts k).c) (h3 : (nxK f k).2.2 = false ∨ d9C (elAt f.ts k) f.nh f.nc f.nd < (nxK f k).2.1) : nxK f (k + 1) = ((elAt f.ts k).nm, d9C (elAt f.ts k) f.nh f.nc f.nd, true) := by rw [nxK, if_pos ⟨h, h2, h3⟩]
theorem nx_keep {f : Fl} {k : Nat} (h : d9D (elAt f.ts k) f.nh f.nc f.nd = true ∨ ¬ 0 < (elAt f.ts k).c ∨ ((nxK f k).2.2 = true ∧ ¬ d9C (elAt f.ts k) f.nh f.nc f.nd < (nxK f k).2.1)) : nxK f (k + 1) = nxK f k := by
  rw [nxK, if_neg]
  rintro ⟨a, b, c⟩
  rcases h with h | h | ⟨h1, h2⟩
  · rw [h] at a; cases a
  · exact h b
  · rcases c with c | c
    · rw [h1] at c; cases c
    · exact h2 c
theorem ret_nx {x : ByteArray × Int × Bool} {a : ByteArray} {b : Int} {c : Bool} (h : x = (a, b, c)) : Ending.returned (.tuple #[.string a, .int .i64 b, .bool c]) = .returned (.tuple #[.string x.1, .int .i64 x.2.1, .bool x.2.2]) := by rw [h]

end Go.Proofs.Ytfnnfldfnjnlfag

namespace Go.Proofs.Ytfnnfldfnjnlfag
open Go Go.RowKit

theorem ixE_neg {α : Type} [Inhabited α] {P : α → Bool} {xs : List α} (h : ¬ 0 ≤ ixE P xs) {j : Nat} (hj : j < xs.length) : P (elAt xs j) = false := by
  rcases ixE_cases P xs with ⟨_, a⟩ | ⟨k, _, a, _⟩
  · exact a j hj
  · rw [a] at h; omega
theorem ixE_pos {α : Type} [Inhabited α] {P : α → Bool} {xs : List α} (h : 0 ≤ ixE P xs) : ∃ k, k < xs.length ∧ ixE P xs = (k : Int) ∧ P (elAt xs k) = true := by
  rcases ixE_cases P xs with ⟨a, _⟩ | ⟨k, a, b, c, _⟩
  · rw [a] at h; omega
  · exact ⟨k, a, b, c⟩
theorem fl_task {f : Fl} (hf : flB f = true) {i : Nat} (hi : i < f.ts.length) : d9B (elAt f.ts i) f.nh f.nc f.nd = true ∧ nameB (elAt f.ts i).nm = true := by
  obtain ⟨h1, _, h3, _⟩ := flB_facts hf
  have k := (listS_facts h3).2.1 i hi
  simp only [tkB, Bool.and_eq_true] at k
  refine ⟨?_, (tsB_facts k.1).1⟩
  rw [d9B, k.1, h1, k.2]; rfl
theorem fl_once {f : Fl} (hf : flB f = true) {i j : Nat} (hi : i < f.ts.length) (hj : j < f.ts.length) (e : (elAt f.ts i).nm = (elAt f.ts j).nm) : i = j := by
  obtain ⟨_, _, h3, _⟩ := flB_facts hf
  refine riseS_ne (listS_facts h3).2.2 (by simpa using hi) (by simpa using hj) ?_
  rw [map_at hi, map_at hj]; exact e
theorem name_ne {x : ByteArray} (h : nameB x = true) : x ≠ ⟨#[]⟩ := by
  intro e
  rw [e] at h
  simp only [nameB, inB, Bool.and_eq_true, decide_eq_true_eq] at h
  exact absurd h.1.1 (by decide)
theorem rl_free {f : Fl} (h : (rlR f).1 = 0) : flB f = true ∧ (∀ i, i < f.ts.length → duT f (elAt f.ts i) = false) ∧ ∀ i, i < f.ds.length → unB f (elAt f.ds i) = false ∧ olB f (elAt f.ds i) = false := by
  rw [rlR] at h
  split at h
  · simp at h
  split at h
  · simp at h
  split at h
  · simp at h
  split at h
  · simp at h
  split at h
  · simp at h
  · rename_i q1 q2 q3 _ q5
    exact ⟨by simpa using q1, fun i hi => ixE_neg q2 hi, fun i hi => ⟨ixE_neg q3 hi, ixE_neg q5 hi⟩⟩
/-- Whether a defect is found on the list, of its first k. -/
def onK (f : Fl) (d : Df) : Nat → Bool
  | 0 => false
  | k + 1 => onK f d k || (decide ((elAt f.cs k).n = d.n) && decide (f.nd - d.s ≤ (elAt f.cs k).d))
theorem onK_at {f : Fl} {d : Df} {k : Nat} (h1 : (elAt f.cs k).n = d.n) (h2 : f.nd - d.s ≤ (elAt f.cs k).d) : ∀ n, k < n → onK f d n = true
  | 0, hn => by omega
  | n + 1, hn => by
    rw [onK]
    by_cases e : k = n
    · subst e; simp [h1, h2]
    · rw [onK_at h1 h2 n (by omega)]; rfl
theorem on_yes {f : Fl} (h : (rlR f).1 = 0) {i : Nat} (hi : i < f.ds.length) : onK f (elAt f.ds i) f.cs.length = true := by
  obtain ⟨_, _, h3⟩ := rl_free h
  obtain ⟨a, b⟩ := h3 i hi
  have a : ¬ caF f (elAt f.ds i).n < 0 := of_decide_eq_false a
  obtain ⟨k, hk, e, hq⟩ := ixE_pos (P := qCr (elAt f.ds i).n) (xs := f.cs) (by show 0 ≤ caF f (elAt f.ds i).n; omega)
  have ec : caF f (elAt f.ds i).n = (k : Int) := e
  have hq : (elAt f.cs k).n = (elAt f.ds i).n := of_decide_eq_true hq
  refine onK_at hq ?_ _ hk
  have c : ¬ (elAt f.cs k).d < f.nd - (elAt f.ds i).s := by
    simp only [olB, ec, Bool.and_eq_false_iff, Bool.not_eq_eq_eq_not, Bool.not_false, decide_eq_true_eq, decide_eq_false_iff_not] at b
    rcases b with b | b
    · omega
    · simpa using b
  omega
/-- What NextDue has found of the first k. -/
theorem nxK_is (f : Fl) : ∀ k, k ≤ f.ts.length →
    ((nxK f k = (⟨#[]⟩, 0, false) ∧ ∀ j, j < k → d9D (elAt f.ts j) f.nh f.nc f.nd = false → ¬ 0 < (elAt f.ts j).c) ∨
     ∃ i, i < k ∧ nxK f k = ((elAt f.ts i).nm, d9C (elAt f.ts i) f.nh f.nc f.nd, true) ∧ d9D (elAt f.ts i) f.nh f.nc f.nd = false ∧ ∀ j, j < k → d9D (elAt f.ts j) f.nh f.nc f.nd = false → 0 < (elAt f.ts j).c → d9C (elAt f.ts i) f.nh f.nc f.nd ≤ d9C (elAt f.ts j) f.nh f.nc f.nd)
  | 0, _ => .inl ⟨rfl, fun j hj => by omega⟩
  | k + 1, hk => by
    have ih := nxK_is f k (by omega)
    by_cases c : d9D (elAt f.ts k) f.nh f.nc f.nd = false ∧ 0 < (elAt f.ts k).c ∧ ((nxK f k).2.2 = false ∨ d9C (elAt f.ts k) f.nh f.nc f.nd < (nxK f k).2.1)
    · right
      refine ⟨k, by omega, by rw [nxK, if_pos c], c.1, fun j hj q1 q2 => ?_⟩
      rcases Nat.lt_or_ge j k with l | l
      · rcases ih with ⟨e, a⟩ | ⟨i, hi, e, q, a⟩
        · exact absurd q2 (a j l q1)
        · have := a j l q1 q2
          rcases c.2.2 with z | z
          · rw [e] at z; cases z
          · rw [e] at z; simp only at z; omega
      · rw [show j = k by omega]; exact Int.le_refl _
    · rw [nxK, if_neg c]
      rcases ih with ⟨e, a⟩ | ⟨i, hi, e, q, a⟩
      · refine .inl ⟨e, fun j hj q1 q2 => ?_⟩
        rcases Nat.lt_or_ge j k with l | l
        · exact a j l q1 q2
        · rw [show j = k by omega] at q1 q2
          exact c ⟨q1, q2, .inl (by rw [e])⟩
      · refine .inr ⟨i, by omega, e, q, fun j hj q1 q2 => ?_⟩
        rcases Nat.lt_or_ge j k with l | l
        · exact a j l q1 q2
        · rw [show j = k by omega] at q1 q2 ⊢
          rcases Int.lt_or_le (d9C (elAt f.ts k) f.nh f.nc f.nd) (d9C (elAt f.ts i) f.nh f.nc f.nd) with z | z
          · exact absurd ⟨q1, q2, .inr (by rw [e]; exact z)⟩ c
          · exact z
/-- What the law FnCarried asks of the next one due. -/
theorem nx_law {f : Fl} (hf : flB f = true) : ((nxR f).2.2 = true ↔ (nxR f).1 ≠ ⟨#[]⟩) ∧
    (∀ i, i < f.ts.length → (elAt f.ts i).nm = (nxR f).1 → (nxR f).2.2 = true ∧ d9D (elAt f.ts i) f.nh f.nc f.nd = false ∧ d9C (elAt f.ts i) f.nh f.nc f.nd = (nxR f).2.1) ∧
    (∀ i, i < f.ts.length → (nxR f).2.2 = true → d9D (elAt f.ts i) f.nh f.nc f.nd = false → 0 < (elAt f.ts i).c → (nxR f).2.1 ≤ d9C (elAt f.ts i) f.nh f.nc f.nd) := by
  rw [nx_yes hf]
  rcases nxK_is f f.ts.length (Nat.le_refl _) with ⟨e, _⟩ | ⟨k, hk, e, q, a⟩
  · rw [e]
    refine ⟨by simp, fun i hi h => ?_, fun i hi h => by cases h⟩
    exact absurd h (name_ne (fl_task hf hi).2)
  · rw [e]
    refine ⟨by simp only [ne_eq, true_iff]; exact name_ne (fl_task hf hk).2, fun i hi h => ?_, fun i hi _ q1 q2 => a i hi q1 q2⟩
    have := fl_once hf hi hk h
    subst this
    exact ⟨rfl, q, rfl⟩

end Go.Proofs.Ytfnnfldfnjnlfag
