/-
  Plain mathematics: bounds on products, and the lesser neighbour of a place in a list. No program here.
  What a name is: 1 to 20 bytes, each a letter, a digit or '-', in plain numbers. No program here.
  Loads, seals and what is aboard, in plain numbers and lists. No program here.
-/
import Derived.Test.YtemodlgmjgdjpaaGreatDoorMBase
import Derived.Test.YtemodlgmjgdjpaaGreatDoorMRowE

namespace Go.Proofs.YtemodlgmjgdjpaaGreatDoor

theorem mulBd {s d A B : Int} (h1 : -A ≤ s) (h2 : s ≤ A) (h3 : -B ≤ d) (h4 : d ≤ B) (_hA : 0 ≤ A) (_hB : 0 ≤ B) : -(A * B) ≤ s * d ∧ s * d ≤ A * B := by
  have e1 : 0 ≤ (A - s) * (B - d) := Int.mul_nonneg (by omega) (by omega)
  have e2 : 0 ≤ (A + s) * (B + d) := Int.mul_nonneg (by omega) (by omega)
  have e3 : 0 ≤ (A - s) * (B + d) := Int.mul_nonneg (by omega) (by omega)
  have e4 : 0 ≤ (A + s) * (B - d) := Int.mul_nonneg (by omega) (by omega)
  simp only [Int.sub_mul, Int.add_mul, Int.mul_sub, Int.mul_add] at e1 e2 e3 e4
  constructor <;> omega

/-- Whether the place of the lesser neighbour is behind i. -/
def beyond (zs : List Int) (x : Int) (i : Nat) : Bool := decide (i + 2 < zs.length ∧ nth zs (i + 1) ≤ x)
def lowAt (zs : List Int) (x : Int) : Nat := ((List.range zs.length).find? fun i => !beyond zs x i).getD 0

theorem beyond_true {zs : List Int} {x : Int} {i : Nat} (h : i + 2 < zs.length) (h' : nth zs (i + 1) ≤ x) : beyond zs x i = true := by
  simp only [beyond, decide_eq_true_eq]; exact ⟨h, h'⟩
theorem beyond_end {zs : List Int} {x : Int} {i : Nat} (h : ¬ i + 2 < zs.length) : beyond zs x i = false := by
  simp only [beyond, decide_eq_false_iff_not]; exact fun k => h k.1
theorem beyond_less {zs : List Int} {x : Int} {i : Nat} (h : ¬ nth zs (i + 1) ≤ x) : beyond zs x i = false := by
  simp only [beyond, decide_eq_false_iff_not]; exact fun k => h k.2
theorem lowAt_is {zs : List Int} {x : Int} {k : Nat} (hk : k < zs.length) (h : beyond zs x k = false) (hb : ∀ j, j < k → beyond zs x j = true) : lowAt zs x = k := by
  unfold lowAt
  have : (List.range zs.length).find? (fun i => !beyond zs x i) = some k := by
    rw [List.find?_range_eq_some]
    refine ⟨by simp [h], by simpa using hk, fun j hj => ?_⟩
    simp [hb j hj]
  rw [this]; rfl

/-- The lesser neighbour has one behind it. -/
theorem lowAt_lt {zs : List Int} {x : Int} (h : 2 ≤ zs.length) : lowAt zs x + 2 ≤ zs.length := by
  have he : beyond zs x (zs.length - 2) = false := beyond_end (by omega)
  unfold lowAt
  cases hf : (List.range zs.length).find? (fun i => !beyond zs x i) with
  | none => simp; omega
  | some i =>
    rw [List.find?_range_eq_some] at hf
    have := hf.2.2 (zs.length - 2)
    rw [he] at this
    simp only [Option.getD_some]
    by_cases c : zs.length - 2 < i
    · have := this c; simp at this
    · omega

/-- The products and sums of one value between two neighbours. -/
theorem between_bd {x0 x1 y0 y1 x B C : Int} (h1 : -B ≤ x0 ∧ x0 ≤ B) (h2 : -B ≤ x1 ∧ x1 ≤ B) (h3 : -C ≤ y0 ∧ y0 ≤ C) (h4 : -C ≤ y1 ∧ y1 ≤ C) (h5 : -B ≤ x ∧ x ≤ B) :
    (-(C * (2 * B)) ≤ y0 * (x1 - x0) ∧ y0 * (x1 - x0) ≤ C * (2 * B)) ∧ (-(2 * C * (2 * B)) ≤ (y1 - y0) * (x - x0) ∧ (y1 - y0) * (x - x0) ≤ 2 * C * (2 * B)) := by
  exact ⟨mulBd (by omega) (by omega) (by omega) (by omega) (by omega) (by omega), mulBd (by omega) (by omega) (by omega) (by omega) (by omega) (by omega)⟩

theorem ret_pair1 {k : IntKind} {a b : Int} {c : Bool} (h : a = b) : Ending.returned (.tuple #[.int k a, .bool c]) = .returned (.tuple #[.int k b, .bool c]) := by rw [h]

theorem ret_ib {a b : Int} {c d : Bool} (h : a = b) (h2 : c = d) : Ending.returned (.tuple #[.int .i64 a, .bool c]) = .returned (.tuple #[.int .i64 b, .bool d]) := by rw [h, h2]

theorem in_facts {x a b : Int} (h : inB x a b = true) : a ≤ x ∧ x ≤ b := by simpa [inB] using h

end Go.Proofs.YtemodlgmjgdjpaaGreatDoor

namespace Go.Proofs.YtemodlgmjgdjpaaGreatDoor
open Go

/-- Whether a byte may stand in a name. -/
def byteB (c : Int) : Bool := inB c 97 122 || inB c 65 90 || inB c 48 57 || decide (c = 45)
/-- The byte at a place of a text; 0 where there is none. -/
def byAt (s : ByteArray) (i : Nat) : Int := if h : i < s.size then ((s[i]'h).toNat : Int) else 0
theorem byAt_is {s : ByteArray} {i : Nat} (h : i < s.size) : ((s[i]'h).toNat : Int) = byAt s i := by simp [byAt, h]
theorem byAt_bd (s : ByteArray) (i : Nat) : 0 ≤ byAt s i ∧ byAt s i ≤ 255 := by
  unfold byAt
  split
  · rename_i h
    have := (s[i]'h).toNat_lt
    omega
  · omega
/-- Whether a text is a name. -/
def nameB (s : ByteArray) : Bool := inB s.size 1 20 && decide (∀ i, i < s.size → byteB (byAt s i) = true)
theorem nameB_size {s : ByteArray} (h : inB s.size 1 20 = false) : nameB s = false := by simp [nameB, h]
theorem nameB_at {s : ByteArray} {i : Nat} (hi : i < s.size) (h : byteB (byAt s i) = false) : nameB s = false := by
  have : ¬ (∀ i, i < s.size → byteB (byAt s i) = true) := fun k => by have := k i hi; rw [h] at this; cases this
  simp [nameB, this]
theorem nameB_all {s : ByteArray} (h : ∀ i, i < s.size → byteB (byAt s i) = true) : nameB s = inB s.size 1 20 := by
  have : decide (∀ i, i < s.size → byteB (byAt s i) = true) = true := decide_eq_true h
  unfold nameB
  rw [this, Bool.and_true]
theorem nameB_facts {s : ByteArray} (h : nameB s = true) : 1 ≤ s.size ∧ s.size ≤ 20 := by
  simp [nameB, inB] at h; omega

end Go.Proofs.YtemodlgmjgdjpaaGreatDoor

namespace Go.Proofs.YtemodlgmjgdjpaaGreatDoor
open Go Go.RowKit

/-- What a load says: its part, number, fits, needs and data. -/
structure Lc where
  p : ByteArray
  nb : Int
  le : Int
  mo : Int
  ne : Int
  zs : List Int
instance : Inhabited Lc := ⟨⟨⟨#[]⟩, 0, 0, 0, 0, []⟩⟩
/-- Whether a load is sound. -/
def ldB (x : Lc) : Bool := nameB x.p && inB x.nb 1 1000000 && inB x.le 1 x.mo && decide (x.mo ≤ 1000000) && inB x.ne 0 1000000 && decide (x.zs.length ≤ 400)
theorem ldB_facts {x : Lc} (h : ldB x = true) : nameB x.p = true ∧ (1 ≤ x.p.size ∧ x.p.size ≤ 20) ∧ (1 ≤ x.nb ∧ x.nb ≤ 1000000) ∧ (1 ≤ x.le ∧ x.le ≤ x.mo ∧ x.mo ≤ 1000000) ∧ (0 ≤ x.ne ∧ x.ne ≤ 1000000) ∧ x.zs.length ≤ 400 := by
  simp only [ldB, inB, Bool.and_eq_true, decide_eq_true_eq] at h
  obtain ⟨⟨⟨⟨⟨h1, h2⟩, h3⟩, h4⟩, h5⟩, h6⟩ := h
  exact ⟨h1, nameB_facts h1, h2, ⟨h3.1, h3.2, h4⟩, h5, h6⟩

/-- One number more in the seal. -/
def seS (x n : Int) : Int := (x * 31 + n) % 1000003
theorem seS_bd (x n : Int) : 0 ≤ seS x n ∧ seS x n < 1000003 := ⟨Int.emod_nonneg _ (by decide), Int.emod_lt_of_pos _ (by decide)⟩
theorem seS_tmod {x n : Int} (h0 : 0 ≤ x) (h1 : 0 ≤ n) : Int.tmod (x * 31 + n) 1000003 = seS x n := by
  rw [seS, Int.tmod_eq_emod_of_nonneg (by omega)]
/-- The seal of a list of numbers, from x on. -/
def seF (x : Int) (zs : List Int) : Int := zs.foldl seS x
theorem seF_nil (x : Int) : seF x [] = x := rfl
theorem seF_app (x : Int) (ys zs : List Int) : seF x (ys ++ zs) = seF (seF x ys) zs := by simp [seF]
theorem seF_one (x : Int) (ys : List Int) (n : Int) : seF x (ys ++ [n]) = seS (seF x ys) n := by simp [seF]
theorem seF_bd {x : Int} (hx : 0 ≤ x ∧ x < 1000003) (zs : List Int) : 0 ≤ seF x zs ∧ seF x zs < 1000003 := by
  induction zs generalizing x with
  | nil => exact hx
  | cons z zs ih => exact ih (seS_bd x z)
/-- The first k bytes of a text, as numbers. -/
def txL (s : ByteArray) (k : Nat) : List Int := (List.range k).map (byAt s)
theorem txL_len (s : ByteArray) (k : Nat) : (txL s k).length = k := by simp [txL]
theorem txL_succ (s : ByteArray) (k : Nat) : txL s (k + 1) = txL s k ++ [byAt s k] := by simp [txL, List.range_succ]
theorem txL_zero (s : ByteArray) : txL s 0 = [] := rfl
theorem txL_at (s : ByteArray) {k i : Nat} (h : i < k) : elAt (txL s k) i = byAt s i := by simp [elAt, txL, h]
/-- The five numbers of a load. -/
def ldN (x : Lc) : List Int := [x.nb, x.le, x.mo, x.ne, (x.zs.length : Int)]
/-- All that a seal is made of. -/
def ldL (x : Lc) : List Int := txL x.p x.p.size ++ ldN x ++ x.zs
theorem ldL_len (x : Lc) : (ldL x).length = x.p.size + 5 + x.zs.length := by simp [ldL, ldN, txL_len]; omega
def seO (x : Lc) : Int := seF 7 (ldL x)
theorem seO_bd (x : Lc) : 0 ≤ seO x ∧ seO x < 1000003 := seF_bd (by omega) _
theorem seO_parts (x : Lc) : seO x = seF (seF (seF 7 (txL x.p x.p.size)) (ldN x)) x.zs := by rw [seO, ldL, seF_app, seF_app]
theorem seF_take {x : Int} {zs : List Int} {k : Nat} (h : k < zs.length) : seF x (zs.take (k + 1)) = seS (seF x (zs.take k)) (elAt zs k) := by
  rw [List.take_add_one, show zs[k]? = some (elAt zs k) by simp [elAt, h]]
  simp [seF]
theorem ldL_pos {x : Lc} (h : ldB x = true) (hz : ∀ i, i < x.zs.length → 0 ≤ elAt x.zs i ∧ elAt x.zs i ≤ 255) : ∀ n ∈ ldL x, 0 ≤ n ∧ n ≤ 1000000 := by
  obtain ⟨_, _, h2, h3, h4, h5⟩ := ldB_facts h
  intro n hn
  simp only [ldL, ldN, List.mem_append, List.mem_cons, List.not_mem_nil, or_false] at hn
  rcases hn with (hn | hn) | hn
  · simp only [txL, List.mem_map] at hn
    obtain ⟨i, _, rfl⟩ := hn
    have := byAt_bd x.p i; omega
  · omega
  · obtain ⟨i, hi, rfl⟩ := List.getElem_of_mem hn
    have := hz i hi
    have e : elAt x.zs i = x.zs[i] := by simp [elAt, hi]
    omega

/-- The first load of a number: where; -1 if there is none. -/
def fnR (n : Int) : List Lc → Nat → Int
  | [], _ => -1
  | x :: r, i => if x.nb = n then (i : Int) else fnR n r (i + 1)
def fnF (ls : List Lc) (n : Int) : Int := fnR n ls 0
theorem fnR_none {n : Int} : ∀ {ls : List Lc} (i : Nat), (∀ j, j < ls.length → (elAt ls j).nb ≠ n) → fnR n ls i = -1
  | [], _, _ => rfl
  | x :: r, i, h => by
    rw [fnR, if_neg (by simpa [elAt] using h 0 (by simp))]
    exact fnR_none (i + 1) (fun j hj => by simpa [elAt] using h (j + 1) (by simpa using hj))
theorem fnR_at {n : Int} : ∀ {ls : List Lc} (i k : Nat), k < ls.length → (elAt ls k).nb = n → (∀ j, j < k → (elAt ls j).nb ≠ n) → fnR n ls i = ((i + k : Nat) : Int)
  | [], _, k, hk, _, _ => by simp at hk
  | x :: r, i, 0, _, h, _ => by rw [fnR, if_pos (by simpa [elAt] using h)]; simp
  | x :: r, i, k + 1, hk, h, hj => by
    rw [fnR, if_neg (by simpa [elAt] using hj 0 (by omega)), fnR_at (i + 1) k (by simpa using hk) (by simpa [elAt] using h) (fun j h2 => by simpa [elAt] using hj (j + 1) (by omega))]
    congr 1; omega
theorem fnF_none {ls : List Lc} {n : Int} (h : ∀ j, j < ls.length → (elAt ls j).nb ≠ n) : fnF ls n = -1 := fnR_none 0 h
theorem fnF_at {ls : List Lc} {n : Int} {k : Nat} (hk : k < ls.length) (h : (elAt ls k).nb = n) (hj : ∀ j, j < k → (elAt ls j).nb ≠ n) : fnF ls n = (k : Int) := by
  rw [fnF, fnR_at 0 k hk h hj]; simp
theorem fnF_cases (ls : List Lc) (n : Int) : (fnF ls n = -1 ∧ ∀ j, j < ls.length → (elAt ls j).nb ≠ n) ∨ ∃ k, k < ls.length ∧ fnF ls n = (k : Int) ∧ (elAt ls k).nb = n ∧ ∀ j, j < k → (elAt ls j).nb ≠ n := by
  have : ∀ m, m ≤ ls.length → (∀ j, j < m → (elAt ls j).nb ≠ n) ∨ ∃ k, k < ls.length ∧ (elAt ls k).nb = n ∧ ∀ j, j < k → (elAt ls j).nb ≠ n := by
    intro m
    induction m with
    | zero => intro _; left; intro j hj; omega
    | succ m ih =>
      intro hm
      rcases ih (by omega) with h | h
      · by_cases e : (elAt ls m).nb = n
        · exact .inr ⟨m, by omega, e, h⟩
        · left; intro j hj
          rcases Nat.lt_or_ge j m with c | c
          · exact h j c
          · obtain rfl : j = m := by omega
            exact e
      · exact .inr h
  rcases this _ (Nat.le_refl _) with h | ⟨k, hk, e, h⟩
  · exact .inl ⟨fnF_none h, h⟩
  · exact .inr ⟨k, hk, fnF_at hk e h, e, h⟩

/-- Whether the load at a place is as what is aboard asks. -/
def abI (s : Int) (ls : List Lc) (i : Nat) : Bool :=
  ldB (elAt ls i) && decide (0 < i → (elAt ls (i - 1)).nb < (elAt ls i).nb) && inB s (elAt ls i).le (elAt ls i).mo && decide ((elAt ls i).ne ≠ 0 → (elAt ls i).ne ≠ (elAt ls i).nb ∧ 0 ≤ fnF ls (elAt ls i).ne) && decide (∀ k, k < i → (elAt ls k).p ≠ (elAt ls i).p)
def abB (s : Int) (ls : List Lc) : Bool := decide (∀ i, i < ls.length → abI s ls i = true) && inB s 1 1000000 && decide (ls.length ≤ 30)
theorem abB_no {s : Int} {ls : List Lc} {i : Nat} (hi : i < ls.length) (h : abI s ls i = false) : abB s ls = false := by
  have : ¬ ∀ i, i < ls.length → abI s ls i = true := fun k => by have := k i hi; rw [h] at this; cases this
  simp [abB, this]
theorem abB_all {s : Int} {ls : List Lc} (h : ∀ i, i < ls.length → abI s ls i = true) : abB s ls = (inB s 1 1000000 && decide (ls.length ≤ 30)) := by
  unfold abB
  rw [decide_eq_true h, Bool.true_and]
theorem abB_facts {s : Int} {ls : List Lc} (h : abB s ls = true) : (∀ i, i < ls.length → abI s ls i = true) ∧ (1 ≤ s ∧ s ≤ 1000000) ∧ ls.length ≤ 30 := by
  simp only [abB, Bool.and_eq_true, decide_eq_true_eq, inB] at h
  exact ⟨h.1.1, h.1.2, h.2⟩
theorem abI_facts {s : Int} {ls : List Lc} {i : Nat} (h : abI s ls i = true) : ldB (elAt ls i) = true ∧ (0 < i → (elAt ls (i - 1)).nb < (elAt ls i).nb) ∧ ((elAt ls i).le ≤ s ∧ s ≤ (elAt ls i).mo) ∧ ((elAt ls i).ne ≠ 0 → (elAt ls i).ne ≠ (elAt ls i).nb ∧ 0 ≤ fnF ls (elAt ls i).ne) ∧ ∀ k, k < i → (elAt ls k).p ≠ (elAt ls i).p := by
  simp only [abI, Bool.and_eq_true, decide_eq_true_eq, inB] at h
  obtain ⟨⟨⟨⟨h1, h2⟩, h3⟩, h4⟩, h5⟩ := h
  exact ⟨h1, h2, h3, h4, h5⟩
theorem ab_lt {s : Int} {ls : List Lc} (h : abB s ls = true) : ∀ {j i : Nat}, i < j → j < ls.length → (elAt ls i).nb < (elAt ls j).nb
  | 0, i, hij, _ => by omega
  | j + 1, i, hij, hj => by
    have h1 := (abI_facts ((abB_facts h).1 (j + 1) hj)).2.1 (by omega)
    rw [Nat.add_sub_cancel] at h1
    rcases Nat.lt_or_ge i j with c | c
    · have := ab_lt h c (by omega : j < ls.length); omega
    · obtain rfl : i = j := by omega
      exact h1

/-- Whether some load needs a number. -/
def neB (ls : List Lc) (n : Int) : Bool := decide (∃ i, i < ls.length ∧ (elAt ls i).ne = n)
theorem neB_no {ls : List Lc} {n : Int} (h : ∀ i, i < ls.length → (elAt ls i).ne ≠ n) : neB ls n = false := by
  simp only [neB, decide_eq_false_iff_not, not_exists, not_and]; exact h
theorem neB_yes {ls : List Lc} {n : Int} {i : Nat} (hi : i < ls.length) (h : (elAt ls i).ne = n) : neB ls n = true := by
  simp only [neB, decide_eq_true_eq]; exact ⟨i, hi, h⟩
/-- The last of the first k loads with a part; -1 if there is none. -/
def saK (ls : List Lc) (p : ByteArray) : Nat → Int
  | 0 => -1
  | k + 1 => if (elAt ls k).p = p then (k : Int) else saK ls p k
def saF (ls : List Lc) (p : ByteArray) : Int := saK ls p ls.length
theorem saK_bd (ls : List Lc) (p : ByteArray) : ∀ k, -1 ≤ saK ls p k ∧ saK ls p k < k
  | 0 => by simp [saK]
  | k + 1 => by
    have := saK_bd ls p k
    rw [saK]; split <;> omega
theorem saK_none (ls : List Lc) (p : ByteArray) : ∀ k, (∀ i, i < k → (elAt ls i).p ≠ p) → saK ls p k = -1
  | 0, _ => rfl
  | k + 1, h => by rw [saK, if_neg (h k (by omega))]; exact saK_none ls p k (fun i hi => h i (by omega))
theorem saK_at (ls : List Lc) (p : ByteArray) {j : Nat} (hp : (elAt ls j).p = p) : ∀ k, j < k → (∀ i, i < k → j < i → (elAt ls i).p ≠ p) → saK ls p k = (j : Int)
  | 0, h, _ => by omega
  | k + 1, h, hn => by
    rw [saK]
    rcases Nat.lt_or_ge j k with c | c
    · rw [if_neg (hn k (by omega) c)]; exact saK_at ls p hp k c (fun i hi => hn i (by omega))
    · obtain rfl : j = k := by omega
      rw [if_pos hp]

/-- What taking a load answers. -/
def tkC (s : Int) (ls : List Lc) (l : Lc) (sl : Int) : Int :=
  if abB s ls = false ∨ ldB l = false then 1
  else if sl ≠ seO l then 2
  else if inB s l.le l.mo = false then 3
  else if l.ne ≠ 0 ∧ (fnF ls l.ne < 0 ∨ fnF ls l.ne = saF ls l.p) then 4
  else if 0 ≤ saF ls l.p ∧ neB ls (elAt ls (saF ls l.p).toNat).nb = true then 4
  else if (0 ≤ saF ls l.p ∧ l.nb ≤ (elAt ls (saF ls l.p).toNat).nb) ∨ 0 ≤ fnF ls l.nb then 5
  else if saF ls l.p < 0 ∧ ls.length = 30 then 6
  else 0
/-- The loads without those of the same part. -/
def tkO (ls : List Lc) (p : ByteArray) : List Lc := if 0 ≤ saF ls p then ls.take (saF ls p).toNat ++ ls.drop ((saF ls p).toNat + 1) else ls
/-- How many of the first loads have a lesser number. -/
def poF (ls : List Lc) (n : Int) : Nat := (ls.takeWhile (fun x => decide (x.nb < n))).length
theorem poF_le (ls : List Lc) (n : Int) : poF ls n ≤ ls.length := by
  induction ls with
  | nil => simp [poF]
  | cons x r ih =>
    rw [poF, List.takeWhile_cons]
    split
    · simpa [poF] using ih
    · simp
theorem poF_at {n : Int} : ∀ {ls : List Lc} (k : Nat), k ≤ ls.length → (∀ j, j < k → (elAt ls j).nb < n) → (k < ls.length → ¬ (elAt ls k).nb < n) → poF ls n = k
  | [], k, hk, _, _ => by simp at hk; simp [poF, hk]
  | x :: r, 0, _, _, h => by
    have : ¬ x.nb < n := by simpa [elAt] using h (by simp)
    simp [poF, this]
  | x :: r, k + 1, hk, hj, h => by
    have h0 : x.nb < n := by simpa [elAt] using hj 0 (by omega)
    have := poF_at (n := n) (ls := r) k (by simpa using hk) (fun j h2 => by simpa [elAt] using hj (j + 1) (by omega)) (fun h2 => by simpa [elAt] using h (by simpa using h2))
    rw [poF, List.takeWhile_cons, if_pos (by simpa using h0), List.length_cons]
    rw [poF] at this; omega
/-- The loads with one more, at its place. -/
def inF (ls : List Lc) (l : Lc) : List Lc := ls.take (poF ls l.nb) ++ l :: ls.drop (poF ls l.nb)
def tkL (s : Int) (ls : List Lc) (l : Lc) (sl : Int) : List Lc := if tkC s ls l sl = 0 then inF (tkO ls l.p) l else ls
/-- Whether a load may be dropped, and what stays. -/
def drB (s : Int) (ls : List Lc) (n : Int) : Bool := abB s ls && decide (0 ≤ fnF ls n) && !neB ls n
def drL (s : Int) (ls : List Lc) (n : Int) : List Lc := if drB s ls n = true then ls.take (fnF ls n).toNat ++ ls.drop ((fnF ls n).toNat + 1) else ls
/-- Which of the first k loads would be taken with their seals. -/
def efK (s : Int) (ls ms : List Lc) : Nat → List Int
  | 0 => []
  | k + 1 => if tkC s ls (elAt ms k) (seO (elAt ms k)) = 0 then efK s ls ms k ++ [(k : Int)] else efK s ls ms k
theorem efK_len (s : Int) (ls ms : List Lc) : ∀ k, (efK s ls ms k).length ≤ k
  | 0 => by simp [efK]
  | k + 1 => by
    have := efK_len s ls ms k
    rw [efK]; split <;> simp <;> omega
def efB (s : Int) (ls ms : List Lc) : Bool := abB s ls && decide (ms.length ≤ 30) && decide (∀ i, i < ms.length → ldB (elAt ms i) = true)
def efL (s : Int) (ls ms : List Lc) : List Int := if efB s ls ms = true then efK s ls ms ms.length else []
theorem efB_no {s : Int} {ls ms : List Lc} {i : Nat} (hi : i < ms.length) (h : ldB (elAt ms i) = false) : efB s ls ms = false := by
  have : ¬ ∀ i, i < ms.length → ldB (elAt ms i) = true := fun k => by have := k i hi; rw [h] at this; cases this
  simp [efB, this]

end Go.Proofs.YtemodlgmjgdjpaaGreatDoor
