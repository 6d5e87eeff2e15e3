/-
  The islands of a net: the list that tells of each bus the least one that closed ties join it with. There is at most one. No program here.
-/
import Derived.Test.YtfahhjgpgccdhacLists
import Derived.Test.YtfahhjgpgccdhacOwnI
namespace Go.Proofs.Ytfahhjgpgccdhac
open Go

/-- Joined by closed ties. -/
inductive Conn (ts : List Ti) : Int → Int → Prop
  | refl (i : Int) : Conn ts i i
  | tie (k : Nat) (hk : k < ts.length) (hc : (elAt ts k).a2 = true) : Conn ts (elAt ts k).a0 (elAt ts k).a1
  | symm {i j : Int} : Conn ts i j → Conn ts j i
  | trans {i j k : Int} : Conn ts i j → Conn ts j k → Conn ts i k

/-- Each bus has a number that is not above it and that it is joined with. -/
structure IsleTo (n : Nat) (ts : List Ti) (zs : List Int) : Prop where
  len : zs.length = n
  low : ∀ i : Nat, i < n → 0 ≤ nth zs i ∧ nth zs i ≤ i
  conn : ∀ i : Nat, i < n → Conn ts i (nth zs i)
/-- And both buses of a closed tie have one number. -/
structure IsIsle (n : Nat) (ts : List Ti) (zs : List Int) : Prop extends IsleTo n ts zs where
  same : ∀ k, k < ts.length → (elAt ts k).a2 = true → nth zs (elAt ts k).a0.toNat = nth zs (elAt ts k).a1.toNat

theorem IsIsle.const {n : Nat} {ts : List Ti} {zs : List Int} (h : IsIsle n ts zs) {i j : Int} (c : Conn ts i j) : nth zs i.toNat = nth zs j.toNat := by
  induction c with
  | refl i => rfl
  | tie k hk hc => exact h.same k hk hc
  | symm _ ih => exact ih.symm
  | trans _ _ ih1 ih2 => exact ih1.trans ih2
theorem IsIsle.le {n : Nat} {ts : List Ti} {zs ys : List Int} (h : IsIsle n ts zs) (g : IsIsle n ts ys) {i : Nat} (hi : i < n) : nth ys i ≤ nth zs i := by
  have hp := h.low i hi
  have hc := g.const (h.conn i hi)
  have hl := g.low (nth zs i).toNat (by omega)
  simp only [Int.toNat_natCast] at hc
  omega
theorem IsIsle.uniq {n : Nat} {ts : List Ti} {zs ys : List Int} (h : IsIsle n ts zs) (g : IsIsle n ts ys) : zs = ys := by
  refine List.ext_getElem (by rw [h.len, g.len]) fun i h1 h2 => ?_
  have a := h.le g (i := i) (by rw [← h.len]; exact h1)
  have b := g.le h (i := i) (by rw [← h.len]; exact h1)
  simp only [nth, List.getElem?_eq_getElem h1, List.getElem?_eq_getElem h2, Option.getD_some] at a b
  omega

/-- The islands, where there are any. -/
noncomputable def isleR (n : Nat) (ts : List Ti) : List Int := open Classical in if h : ∃ zs, IsIsle n ts zs then h.choose else []
theorem IsIsle.eq {n : Nat} {ts : List Ti} {zs : List Int} (h : IsIsle n ts zs) : zs = isleR n ts := by
  unfold isleR
  rw [dif_pos ⟨zs, h⟩]
  exact h.uniq (Exists.choose_spec (⟨zs, h⟩ : ∃ zs, IsIsle n ts zs))

/-- The sum of the numbers. -/
def sumZ : List Int → Nat
  | [] => 0
  | z :: zs => z.toNat + sumZ zs
theorem sumZ_set (zs : List Int) (v : Int) : ∀ i, i < zs.length → sumZ (zs.set i v) + (nth zs i).toNat = sumZ zs + v.toNat := by
  induction zs with
  | nil => intro i hi; simp at hi
  | cons z zs ih =>
    intro i hi
    cases i with
    | zero => simp [sumZ, nth]; omega
    | succ i =>
      have := ih i (by simpa using hi)
      simp only [List.set_cons_succ, sumZ, nth, List.getElem?_cons_succ] at *
      omega

/-- One closed tie whose buses have unlike numbers: both take the lesser one. -/
def joinT (zs : List Int) (a b : Nat) : List Int := (zs.set a (min (nth zs a) (nth zs b))).set b (min (nth zs a) (nth zs b))
theorem joinT_at (zs : List Int) {a b : Nat} (ha : a < zs.length) (hb : b < zs.length) (i : Nat) : nth (joinT zs a b) i = if i = a ∨ i = b then min (nth zs a) (nth zs b) else nth zs i := by
  unfold joinT
  rw [nth_set _ _ _ _ (by simpa using hb), nth_set _ _ _ _ ha]
  by_cases h1 : i = b
  · simp [h1]
  · by_cases h2 : i = a <;> simp [h1, h2]
theorem joinT_to {n : Nat} {ts : List Ti} {zs : List Int} (h : IsleTo n ts zs) {k : Nat} (hk : k < ts.length) (hc : (elAt ts k).a2 = true) (h0 : 0 ≤ (elAt ts k).a0 ∧ (elAt ts k).a0 < n) (h1 : 0 ≤ (elAt ts k).a1 ∧ (elAt ts k).a1 < n) :
    IsleTo n ts (joinT zs (elAt ts k).a0.toNat (elAt ts k).a1.toNat) := by
  have la : (elAt ts k).a0.toNat < zs.length := by rw [h.len]; omega
  have lb : (elAt ts k).a1.toNat < zs.length := by rw [h.len]; omega
  have qa := h.low (elAt ts k).a0.toNat (by omega)
  have qb := h.low (elAt ts k).a1.toNat (by omega)
  have ca := h.conn (elAt ts k).a0.toNat (by omega)
  have cb := h.conn (elAt ts k).a1.toNat (by omega)
  have ct := Conn.tie (ts := ts) k hk hc
  have ea : (((elAt ts k).a0.toNat : Nat) : Int) = (elAt ts k).a0 := by omega
  have eb : (((elAt ts k).a1.toNat : Nat) : Int) = (elAt ts k).a1 := by omega
  rw [ea] at ca
  rw [eb] at cb
  refine ⟨by simp [joinT, h.len], fun i hi => ?_, fun i hi => ?_⟩
  · rw [joinT_at zs la lb]
    split
    · rename_i e; rcases e with rfl | rfl <;> omega
    · exact h.low i hi
  · rw [joinT_at zs la lb]
    split
    · rename_i e
      have hm : min (nth zs (elAt ts k).a0.toNat) (nth zs (elAt ts k).a1.toNat) = nth zs (elAt ts k).a0.toNat ∨ min (nth zs (elAt ts k).a0.toNat) (nth zs (elAt ts k).a1.toNat) = nth zs (elAt ts k).a1.toNat := by omega
      rcases e with rfl | rfl
      · rw [ea]
        rcases hm with hm | hm <;> rw [hm]
        · exact ca
        · exact ct.trans cb
      · rw [eb]
        rcases hm with hm | hm <;> rw [hm]
        · exact ct.symm.trans ca
        · exact cb
    · exact h.conn i hi
theorem joinT_sum {zs : List Int} {a b : Nat} (ha : a < zs.length) (hb : b < zs.length) (hab : a ≠ b) (p : 0 ≤ nth zs a) (q : 0 ≤ nth zs b) (hne : nth zs a ≠ nth zs b) : sumZ (joinT zs a b) < sumZ zs := by
  have s1 := sumZ_set zs (min (nth zs a) (nth zs b)) a ha
  have s2 := sumZ_set (zs.set a (min (nth zs a) (nth zs b))) (min (nth zs a) (nth zs b)) b (by simpa using hb)
  rw [nth_set _ _ _ _ ha, if_neg (fun e => hab e.symm)] at s2
  unfold joinT
  omega

/-- The list that each bus begins with. -/
def idL : Nat → List Int
  | 0 => []
  | k + 1 => idL k ++ [(k : Int)]
theorem idL_len (k : Nat) : (idL k).length = k := by
  induction k with
  | zero => rfl
  | succ k ih => simp [idL, ih]
theorem idL_at (k : Nat) : ∀ i, i < k → nth (idL k) i = i := by
  induction k with
  | zero => intro i hi; omega
  | succ k ih =>
    intro i hi
    unfold idL nth
    by_cases e : i < k
    · rw [List.getElem?_append_left (by rw [idL_len]; exact e)]; exact ih i e
    · obtain rfl : i = k := by omega
      rw [List.getElem?_append_right (by rw [idL_len]; omega)]
      simp [idL_len]
theorem idL_to (n : Nat) (ts : List Ti) : IsleTo n ts (idL n) :=
  ⟨idL_len n, fun i hi => by rw [idL_at n i hi]; omega, fun i hi => by rw [idL_at n i hi]; exact .refl _⟩

end Go.Proofs.Ytfahhjgpgccdhac
