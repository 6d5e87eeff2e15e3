/-
  Carries, defects, deeds and fleets in plain lists: whether they are so, what is due, what may fly, what a deed does. No program here.
-/
import Derived.Test.YtfnnfldfnjnlfagMCkPure
import Derived.Test.YtfnnfldfnjnlfagMWrOrd
import Derived.Test.YtfnnfldfnjnlfagSmall
namespace Go.Proofs.Ytfnnfldfnjnlfag
open Go Go.RowKit

/-- What the list allows of a defect: its name, how many, how many days. -/
structure Cr where
  n : ByteArray
  m : Int
  d : Int
instance : Inhabited Cr := ⟨⟨⟨#[]⟩, 0, 0⟩⟩
/-- A defect: its name, its item, since when. -/
structure Df where
  n : ByteArray
  i : Int
  s : Int
instance : Inhabited Df := ⟨⟨⟨#[]⟩, 0, 0⟩⟩
/-- A deed: its kind, a name, an item, how many. -/
structure De where
  k : Int
  n : ByteArray
  i : Int
  m : Int
instance : Inhabited De := ⟨⟨0, ⟨#[]⟩, 0, 0⟩⟩

section lists
variable {α : Type} [Inhabited α]
/-- Of all of a list. -/
def allE (P : α → Bool) (xs : List α) : Bool := decide (∀ i, i < xs.length → P (elAt xs i) = true)
theorem allE_true {P : α → Bool} {xs : List α} (h : ∀ i, i < xs.length → P (elAt xs i) = true) : allE P xs = true := decide_eq_true h
theorem allE_false {P : α → Bool} {xs : List α} {i : Nat} (hi : i < xs.length) (h : P (elAt xs i) = false) : allE P xs = false := decide_eq_false (fun k => by have := k i hi; rw [h] at this; cases this)
theorem allE_at {P : α → Bool} {xs : List α} (h : allE P xs = true) {i : Nat} (hi : i < xs.length) : P (elAt xs i) = true := of_decide_eq_true h i hi
theorem map_at {β : Type} [Inhabited β] {f : α → β} {xs : List α} {i : Nat} (hi : i < xs.length) : elAt (xs.map f) i = f (elAt xs i) := by
  unfold elAt
  simp [hi]
theorem take_more {xs : List α} {k : Nat} (hk : k < xs.length) : xs.take (k + 1) = xs.take k ++ [elAt xs k] := by
  unfold elAt
  rw [List.take_succ_eq_append_getElem hk]
  simp [hk]
theorem map_take {β : Type} {f : α → β} {xs : List α} {k : Nat} (hk : k < xs.length) : (xs.take (k + 1)).map f = (xs.take k).map f ++ [f (elAt xs k)] := by
  rw [take_more hk]
  simp
/-- A list of at most so many, each so, by names that rise. -/
def listS (most : Nat) (P : α → Bool) (key : α → ByteArray) (xs : List α) : Bool := decide (xs.length ≤ most) && allE P xs && riseS (xs.map key)
def listI (most : Nat) (P : α → Bool) (key : α → Int) (xs : List α) : Bool := decide (xs.length ≤ most) && allE P xs && riseB (xs.map key)
theorem listS_long {most : Nat} {P : α → Bool} {key : α → ByteArray} {xs : List α} (h : ¬ xs.length ≤ most) : listS most P key xs = false := by simp [listS, h]
theorem listI_long {most : Nat} {P : α → Bool} {key : α → Int} {xs : List α} (h : ¬ xs.length ≤ most) : listI most P key xs = false := by simp [listI, h]
theorem listS_el {most : Nat} {P : α → Bool} {key : α → ByteArray} {xs : List α} {i : Nat} (hi : i < xs.length) (h : P (elAt xs i) = false) : listS most P key xs = false := by simp [listS, allE_false hi h]
theorem listI_el {most : Nat} {P : α → Bool} {key : α → Int} {xs : List α} {i : Nat} (hi : i < xs.length) (h : P (elAt xs i) = false) : listI most P key xs = false := by simp [listI, allE_false hi h]
theorem listS_all {most : Nat} {P : α → Bool} {key : α → ByteArray} {xs : List α} (hl : xs.length ≤ most) (h : ∀ i, i < xs.length → P (elAt xs i) = true) : listS most P key xs = riseS (xs.map key) := by simp [listS, hl, allE_true h]
theorem listI_all {most : Nat} {P : α → Bool} {key : α → Int} {xs : List α} (hl : xs.length ≤ most) (h : ∀ i, i < xs.length → P (elAt xs i) = true) : listI most P key xs = riseB (xs.map key) := by simp [listI, hl, allE_true h]
theorem nthI_at {key : α → Int} {xs : List α} {i : Nat} (hi : i < xs.length) : nth (xs.map key) i = key (elAt xs i) := by
  unfold nth elAt
  simp [hi]
theorem listS_fall {most : Nat} {P : α → Bool} {key : α → ByteArray} {xs : List α} {i : Nat} (hi : i + 1 < xs.length) (h : sLt (key (elAt xs i)) (key (elAt xs (i + 1))) = false) : listS most P key xs = false := by
  have : riseS (xs.map key) = false := riseS_false (i := i) (by simpa using hi) (by rw [map_at (by omega), map_at hi]; exact h)
  simp [listS, this]
theorem listI_fall {most : Nat} {P : α → Bool} {key : α → Int} {xs : List α} {i : Nat} (hi : i + 1 < xs.length) (h : key (elAt xs (i + 1)) ≤ key (elAt xs i)) : listI most P key xs = false := by
  have : riseB (xs.map key) = false := riseB_false (j := i) (by simpa using hi) (by rw [nthI_at hi, nthI_at (i := i) (by omega)]; exact h)
  simp [listI, this]
theorem listS_yes {most : Nat} {P : α → Bool} {key : α → ByteArray} {xs : List α} (hl : xs.length ≤ most) (h : ∀ i, i < xs.length → P (elAt xs i) = true) (hr : ∀ i, i + 1 < xs.length → sLt (key (elAt xs i)) (key (elAt xs (i + 1))) = true) : listS most P key xs = true := by
  rw [listS_all hl h]
  refine riseS_true (fun i hi => ?_)
  rw [List.length_map] at hi
  rw [map_at (by omega), map_at hi]
  exact hr i hi
theorem listI_yes {most : Nat} {P : α → Bool} {key : α → Int} {xs : List α} (hl : xs.length ≤ most) (h : ∀ i, i < xs.length → P (elAt xs i) = true) (hr : ∀ i, i + 1 < xs.length → key (elAt xs i) < key (elAt xs (i + 1))) : listI most P key xs = true := by
  rw [listI_all hl h]
  refine riseB_true (fun i hi => ?_)
  rw [List.length_map] at hi
  rw [nthI_at (by omega), nthI_at hi]
  exact hr i hi
theorem listS_facts {most : Nat} {P : α → Bool} {key : α → ByteArray} {xs : List α} (h : listS most P key xs = true) : xs.length ≤ most ∧ (∀ i, i < xs.length → P (elAt xs i) = true) ∧ riseS (xs.map key) = true := by
  simp only [listS, Bool.and_eq_true, decide_eq_true_eq] at h
  exact ⟨h.1.1, fun i hi => allE_at h.1.2 hi, h.2⟩
theorem listI_facts {most : Nat} {P : α → Bool} {key : α → Int} {xs : List α} (h : listI most P key xs = true) : xs.length ≤ most ∧ (∀ i, i < xs.length → P (elAt xs i) = true) ∧ riseB (xs.map key) = true := by
  simp only [listI, Bool.and_eq_true, decide_eq_true_eq] at h
  exact ⟨h.1.1, fun i hi => allE_at h.1.2 hi, h.2⟩
/-- The place of the first of which P is so; -1 if there is none. -/
def ixEr (P : α → Bool) : List α → Nat → Int
  | [], _ => -1
  | x :: r, i => if P x = true then (i : Int) else ixEr P r (i + 1)
def ixE (P : α → Bool) (xs : List α) : Int := ixEr P xs 0
theorem ixEr_none {P : α → Bool} : ∀ {xs : List α} (i : Nat), (∀ j, j < xs.length → P (elAt xs j) = false) → ixEr P xs i = -1
  | [], _, _ => rfl
  | x :: r, i, h => by
    rw [ixEr, if_neg (by have := h 0 (by simp); simp [elAt] at this; simp [this])]
    exact ixEr_none (i + 1) (fun j hj => by simpa [elAt] using h (j + 1) (by simpa using hj))
theorem ixEr_at {P : α → Bool} : ∀ {xs : List α} (i k : Nat), k < xs.length → P (elAt xs k) = true → (∀ j, j < k → P (elAt xs j) = false) → ixEr P xs i = ((i + k : Nat) : Int)
  | [], _, k, hk, _, _ => by simp at hk
  | x :: r, i, 0, _, h, _ => by rw [ixEr, if_pos (by simpa [elAt] using h)]; simp
  | x :: r, i, k + 1, hk, h, hj => by
    rw [ixEr, if_neg (by have := hj 0 (by omega); simp [elAt] at this; simp [this]), ixEr_at (i + 1) k (by simpa using hk) (by simpa [elAt] using h) (fun j h2 => by simpa [elAt] using hj (j + 1) (by omega))]
    congr 1; omega
theorem ixE_none {P : α → Bool} {xs : List α} (h : ∀ j, j < xs.length → P (elAt xs j) = false) : ixE P xs = -1 := ixEr_none 0 h
theorem ixE_at {P : α → Bool} {xs : List α} {k : Nat} (hk : k < xs.length) (h : P (elAt xs k) = true) (hj : ∀ j, j < k → P (elAt xs j) = false) : ixE P xs = (k : Int) := by
  rw [ixE, ixEr_at 0 k hk h hj]; simp
theorem ixE_cases (P : α → Bool) (xs : List α) : (ixE P xs = -1 ∧ ∀ j, j < xs.length → P (elAt xs j) = false) ∨ ∃ k, k < xs.length ∧ ixE P xs = (k : Int) ∧ P (elAt xs k) = true ∧ ∀ j, j < k → P (elAt xs j) = false := by
  have : ∀ m, m ≤ xs.length → (∀ j, j < m → P (elAt xs j) = false) ∨ ∃ k, k < xs.length ∧ P (elAt xs k) = true ∧ ∀ j, j < k → P (elAt xs j) = false := by
    intro m
    induction m with
    | zero => intro _; left; intro j hj; omega
    | succ m ih =>
      intro hm
      rcases ih (by omega) with h | h
      · cases e : P (elAt xs m) with
        | true => exact .inr ⟨m, by omega, e, h⟩
        | false =>
          left; intro j hj
          rcases Nat.lt_or_ge j m with c | c
          · exact h j c
          · obtain rfl : j = m := by omega
            exact e
      · exact .inr h
  rcases this _ (Nat.le_refl _) with h | ⟨k, hk, e, h⟩
  · exact .inl ⟨ixE_none h, h⟩
  · exact .inr ⟨k, hk, ixE_at hk e h, e, h⟩
end lists

/-- Their cells. -/
def crC (p : Cr) : Nat → Value
  | 0 => .string p.n
  | 1 => .int .i64 p.m
  | _ => .int .i64 p.d
def dfC (p : Df) : Nat → Value
  | 0 => .string p.n
  | 1 => .int .i64 p.i
  | _ => .int .i64 p.s
def deC (p : De) : Nat → Value
  | 0 => .int .i64 p.k
  | 1 => .string p.n
  | 2 => .int .i64 p.i
  | _ => .int .i64 p.m
def tsC (p : Ts) : Nat → Value
  | 0 => .string p.nm
  | 1 => .int .i64 p.h
  | 2 => .int .i64 p.c
  | 3 => .int .i64 p.d
  | 4 => .int .i64 p.dh
  | 5 => .int .i64 p.dc
  | _ => .int .i64 p.dd
/-- A text that can be there, numbers of 64 bits. -/
def fitT (s : ByteArray) : Prop := s.size ≤ 9223372036854775807
def fitN (a : Int) : Prop := -9223372036854775808 ≤ a ∧ a ≤ 9223372036854775807

/-- Whether a carry, a list of carries is so. -/
def crB (c : Cr) : Bool := nameB c.n && inB c.m 0 10 && inB c.d 0 120
def caB (cs : List Cr) : Bool := listS 20 crB (·.n) cs
/-- A fleet: tasks, carries, defects, now. -/
structure Fl where
  ts : List Ts
  cs : List Cr
  ds : List Df
  nh : Int
  nc : Int
  nd : Int
/-- Whether a task, a defect, a fleet is so. -/
def tkB (nh nc nd : Int) (t : Ts) : Bool := tsB t && bhB t.dh t.dc t.dd nh nc nd
def dkB (nd : Int) (d : Df) : Bool := nameB d.n && inB d.i 1 1000000 && inB d.s 0 nd
def flB (f : Fl) : Bool := ckB f.nh f.nc f.nd && caB f.cs && listS 40 (tkB f.nh f.nc f.nd) (·.nm) f.ts && listI 20 (dkB f.nd) (·.i) f.ds
theorem flB_facts {f : Fl} (h : flB f = true) : ckB f.nh f.nc f.nd = true ∧ caB f.cs = true ∧ listS 40 (tkB f.nh f.nc f.nd) (·.nm) f.ts = true ∧ listI 20 (dkB f.nd) (·.i) f.ds = true := by
  simp only [flB, Bool.and_eq_true] at h
  exact ⟨h.1.1.1, h.1.1.2, h.1.2, h.2⟩
/-- Whether a task is due now; the place of a carry by its name; how many defects have a name. -/
def duT (f : Fl) (t : Ts) : Bool := d9D t f.nh f.nc f.nd
def qCr (nm : ByteArray) (c : Cr) : Bool := decide (c.n = nm)
def caF (f : Fl) (nm : ByteArray) : Int := ixE (qCr nm) f.cs
def mnK (ds : List Df) (nm : ByteArray) : Nat → Int
  | 0 => 0
  | k + 1 => mnK ds nm k + if (elAt ds k).n = nm then 1 else 0
theorem mnK_bd (ds : List Df) (nm : ByteArray) (k : Nat) : 0 ≤ mnK ds nm k ∧ mnK ds nm k ≤ k := by
  induction k with
  | zero => simp [mnK]
  | succ k ih => rw [mnK]; split <;> omega
def mnF (ds : List Df) (nm : ByteArray) : Int := mnK ds nm ds.length
/-- Why a defect bars: it is not listed, there are too many, it is too old. -/
def unB (f : Fl) (d : Df) : Bool := decide (caF f d.n < 0)
def mnB (f : Fl) (d : Df) : Bool := !decide (caF f d.n < 0) && decide ((elAt f.cs (caF f d.n).toNat).m < mnF f.ds d.n)
def olB (f : Fl) (d : Df) : Bool := !decide (caF f d.n < 0) && decide ((elAt f.cs (caF f d.n).toNat).d < f.nd - d.s)
/-- What Release tells. -/
def rlR (f : Fl) : Int × ByteArray :=
  if flB f = false then (1, ⟨#[]⟩)
  else if 0 ≤ ixE (duT f) f.ts then (2, (elAt f.ts (ixE (duT f) f.ts).toNat).nm)
  else if 0 ≤ ixE (unB f) f.ds then (3, (elAt f.ds (ixE (unB f) f.ds).toNat).n)
  else if 0 ≤ ixE (mnB f) f.ds then (4, (elAt f.ds (ixE (mnB f) f.ds).toNat).n)
  else if 0 ≤ ixE (olB f) f.ds then (5, (elAt f.ds (ixE (olB f) f.ds).toNat).n)
  else (0, ⟨#[]⟩)
/-- What NextDue tells. -/
def nxK (f : Fl) : Nat → ByteArray × Int × Bool
  | 0 => (⟨#[]⟩, 0, false)
  | k + 1 => if d9D (elAt f.ts k) f.nh f.nc f.nd = false ∧ 0 < (elAt f.ts k).c ∧ ((nxK f k).2.2 = false ∨ d9C (elAt f.ts k) f.nh f.nc f.nd < (nxK f k).2.1) then ((elAt f.ts k).nm, d9C (elAt f.ts k) f.nh f.nc f.nd, true) else nxK f k
def nxR (f : Fl) : ByteArray × Int × Bool := if flB f = true then nxK f f.ts.length else (⟨#[]⟩, 0, false)
/-- Where an item stands or would stand; whether it is there. -/
def plR (it : Int) : List Df → Nat
  | [] => 0
  | d :: r => if d.i < it then plR it r + 1 else 0
theorem plR_at (it : Int) : ∀ (ds : List Df) (k : Nat), k ≤ ds.length → (∀ j, j < k → (elAt ds j).i < it) → (k = ds.length ∨ ¬ (elAt ds k).i < it) → plR it ds = k
  | [], k, hk, _, _ => by simp at hk; rw [hk]; rfl
  | d :: r, 0, _, _, h => by
    rcases h with h | h
    · simp at h
    · rw [plR, if_neg (by simpa [elAt] using h)]
  | d :: r, k + 1, hk, hj, h => by
    rw [plR, if_pos (by simpa [elAt] using hj 0 (by omega)), plR_at it r k (by simpa using hk) (fun j h2 => by simpa [elAt] using hj (j + 1) (by omega)) (by
      rcases h with h | h
      · left; simpa using h
      · right; simpa [elAt] using h)]
theorem plR_le (it : Int) : ∀ (ds : List Df), plR it ds ≤ ds.length
  | [] => Nat.le_refl _
  | d :: r => by rw [plR]; split; have := plR_le it r; simpa using this; simp
def atI (ds : List Df) (it : Int) : Bool := decide (plR it ds < ds.length ∧ (elAt ds (plR it ds)).i = it)
def qTs (nm : ByteArray) (t : Ts) : Bool := decide (t.nm = nm)
/-- What a deed does; whether it is done. -/
def flyB (f : Fl) (d : De) : Bool := decide ((rlR f).1 = 0) && inB d.m 1 100 && ckB (f.nh + d.m) (f.nc + 1) f.nd
def dayB (f : Fl) (d : De) : Bool := inB d.m 1 100 && ckB f.nh f.nc (f.nd + d.m)
def tskB (f : Fl) (d : De) : Bool := decide (0 ≤ ixE (qTs d.n) f.ts)
def fndB (f : Fl) (d : De) : Bool := !atI f.ds d.i && dkB f.nd ⟨d.n, d.i, f.nd⟩ && decide (f.ds.length < 20)
def dwB (f : Fl) (d : De) : Bool := flB f && ((decide (d.k = 1) && flyB f d) || (decide (d.k = 2) && tskB f d) || (decide (d.k = 3) && fndB f d) || (decide (d.k = 4) && atI f.ds d.i) || (decide (d.k = 5) && dayB f d))
def dnT (f : Fl) (t : Ts) : Ts := ⟨t.nm, t.h, t.c, t.d, f.nh, f.nc, f.nd⟩
def dwF (f : Fl) (d : De) : Fl :=
  if dwB f d = false then f
  else if d.k = 1 then ⟨f.ts, f.cs, f.ds, f.nh + d.m, f.nc + 1, f.nd⟩
  else if d.k = 2 then ⟨f.ts.set (ixE (qTs d.n) f.ts).toNat (dnT f (elAt f.ts (ixE (qTs d.n) f.ts).toNat)), f.cs, f.ds, f.nh, f.nc, f.nd⟩
  else if d.k = 3 then ⟨f.ts, f.cs, f.ds.take (plR d.i f.ds) ++ ⟨d.n, d.i, f.nd⟩ :: f.ds.drop (plR d.i f.ds), f.nh, f.nc, f.nd⟩
  else if d.k = 4 then ⟨f.ts, f.cs, f.ds.take (plR d.i f.ds) ++ f.ds.drop (plR d.i f.ds + 1), f.nh, f.nc, f.nd⟩
  else ⟨f.ts, f.cs, f.ds, f.nh, f.nc, f.nd + d.m⟩
/-- Deeds one behind the other: the fleet behind k of them, what they told. -/
def rwF (f : Fl) (es : List De) : Nat → Fl
  | 0 => f
  | k + 1 => dwF (rwF f es k) (elAt es k)
def rwT (f : Fl) (es : List De) : Nat → List Bool
  | 0 => []
  | k + 1 => rwT f es k ++ [dwB (rwF f es k) (elAt es k)]
theorem rwT_len (f : Fl) (es : List De) (k : Nat) : (rwT f es k).length = k := by
  induction k with
  | zero => rfl
  | succ k ih => simp [rwT, ih]
def rwN (es : List De) : Nat := if es.length ≤ 100 then es.length else 0

end Go.Proofs.Ytfnnfldfnjnlfag
