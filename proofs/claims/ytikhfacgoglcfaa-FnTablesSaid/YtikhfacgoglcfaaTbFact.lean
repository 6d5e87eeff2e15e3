/-
  What a table tells at its places, between two of them and where a number is reached, in plain numbers. No program here.
-/
import Derived.Test.YtikhfacgoglcfaaAtPure
namespace Go.Proofs.Ytikhfacgoglcfaa
open Go

theorem frac_mulT {z d : Int} (hd : 1 ≤ d) : fracN (z * d) d = z ∧ fracD (z * d) d = 1 := by
  have hg : (Int.gcd (z * d) d : Int) = d := by
    have h1 : Int.gcd (z * d) d = d.natAbs := by rw [Int.gcd_comm]; exact Int.gcd_eq_natAbs_left (Int.dvd_mul_left z d)
    rw [h1]; omega
  unfold fracN fracD
  rw [hg]
  exact ⟨Int.mul_tdiv_cancel _ (by omega), Int.ediv_self (by omega)⟩
/-- A fraction made smaller. -/
theorem frac_red {n d : Int} (hd : 1 ≤ d) : ∃ g : Int, 0 < g ∧ fracN n d * g = n ∧ fracD n d * g = d := by
  refine ⟨(Int.gcd n d : Int), ?_, ?_, ?_⟩
  · have : 0 < Int.gcd n d := by
      rcases Nat.eq_zero_or_pos (Int.gcd n d) with h | h
      · have := (Int.gcd_eq_zero_iff.1 h).2; omega
      · exact h
    omega
  · unfold fracN; exact Int.tdiv_mul_cancel (Int.gcd_dvd_left ..)
  · unfold fracD; exact Int.ediv_mul_cancel (Int.gcd_dvd_right ..)
theorem frac_ge {n d y : Int} (hd : 1 ≤ d) (h : y * d ≤ n) : y * fracD n d ≤ fracN n d := by
  obtain ⟨g, h0, h1, h2⟩ := frac_red (n := n) hd
  refine Int.le_of_mul_le_mul_right ?_ h0
  rw [Int.mul_assoc, h2, h1]
  exact h
theorem frac_le {n d y : Int} (hd : 1 ≤ d) (h : n ≤ y * d) : fracN n d ≤ y * fracD n d := by
  obtain ⟨g, h0, h1, h2⟩ := frac_red (n := n) hd
  refine Int.le_of_mul_le_mul_right ?_ h0
  rw [Int.mul_assoc, h2, h1]
  exact h
theorem frac_lt {n d y : Int} (hd : 1 ≤ d) (h : n < y * d) : fracN n d < y * fracD n d := by
  obtain ⟨g, h0, h1, h2⟩ := frac_red (n := n) hd
  refine Int.lt_of_mul_lt_mul_right ?_ (Int.le_of_lt h0)
  rw [Int.mul_assoc, h2, h1]
  exact h
theorem frac_den {n d : Int} (hd : 1 ≤ d) : 1 ≤ fracD n d ∧ fracD n d ≤ d := by
  obtain ⟨g, h0, _, h2⟩ := frac_red (n := n) hd
  have hp : 0 < fracD n d := by
    rcases (show 0 < fracD n d ∨ fracD n d ≤ 0 by omega) with h | h
    · exact h
    · have := Int.mul_nonneg (a := -fracD n d) (b := g) (by omega) (by omega)
      rw [Int.neg_mul, h2] at this
      omega
  refine ⟨by omega, ?_⟩
  have := Int.mul_le_mul_of_nonneg_left (a := 1) (b := g) (c := fracD n d) (by omega) (by omega)
  rw [h2] at this
  omega

section
variable {xs ys : List Int} (F : CurveFacts xs ys)
include F
theorem tb_mono : ∀ (k a : Nat), a + k < xs.length → nth xs a ≤ nth xs (a + k)
  | 0, a, _ => Int.le_refl _
  | k + 1, a, h => by
    have h1 := tb_mono k a (by omega)
    have h2 := F.rise (a + k) (by omega)
    have e : a + (k + 1) = a + k + 1 := by omega
    rw [e]
    omega
theorem tb_up {a b : Nat} (h : a ≤ b) (hb : b < xs.length) : nth xs a ≤ nth xs b := by
  have := tb_mono F (b - a) a (by omega)
  rwa [show a + (b - a) = b by omega] at this
theorem tb_low {x : Int} {i : Nat} (hi : i + 1 < xs.length) (h0 : nth xs i ≤ x) (h1 : x < nth xs (i + 1) ∨ i + 2 = xs.length) : lowAt xs x = i := by
  refine lowAt_is (by omega) ?_ (fun j hj => beyond_true (by omega) ?_)
  · rcases h1 with h1 | h1
    · exact beyond_less (by omega)
    · exact beyond_end (by omega)
  · have := tb_up F (a := j + 1) (b := i) (by omega) (by omega)
    omega
theorem tb_step {i : Nat} (hi : i + 1 < xs.length) : 1 ≤ nth xs (i + 1) - nth xs i ∧ nth xs (i + 1) - nth xs i ≤ 200000 := by
  have h1 := F.rise i (by omega)
  have h2 := F.xb i (by omega)
  have h3 := F.xb (i + 1) hi
  omega
theorem tb_in (hc : curveB xs ys = true) {x : Int} {a b : Nat} (ha : a < xs.length) (hb : b < xs.length) (h0 : nth xs a ≤ x) (h1 : x ≤ nth xs b) : atFlag xs ys x = true := by
  have k0 := tb_up F (a := 0) (b := a) (by omega) ha
  have k1 := tb_up F (a := b) (b := xs.length - 1) (by omega) (by omega)
  unfold atFlag
  rw [hc, Bool.true_and]
  simp only [inB, decide_eq_true_eq]
  omega
theorem tb_seg (hc : curveB xs ys = true) {x : Int} {i : Nat} (hi : i + 1 < xs.length) (h0 : nth xs i ≤ x) (h1 : x ≤ nth xs (i + 1)) (h2 : x < nth xs (i + 1) ∨ i + 2 = xs.length) :
    atN xs ys x = fracN (nth ys i * (nth xs (i + 1) - nth xs i) + (nth ys (i + 1) - nth ys i) * (x - nth xs i)) (nth xs (i + 1) - nth xs i) ∧ atD xs ys x = fracD (nth ys i * (nth xs (i + 1) - nth xs i) + (nth ys (i + 1) - nth ys i) * (x - nth xs i)) (nth xs (i + 1) - nth xs i) := by
  have hf := tb_in F hc (x := x) (a := i) (b := i + 1) (by omega) hi h0 h1
  have hl := tb_low F hi h0 h2
  unfold atN atD
  rw [if_pos hf, if_pos hf]
  unfold atNum atDen
  rw [hl]
  exact ⟨rfl, rfl⟩
/-- At a place of the table its own number. -/
theorem tb_node (hc : curveB xs ys = true) {i : Nat} (hi : i < xs.length) : atFlag xs ys (nth xs i) = true ∧ atN xs ys (nth xs i) = nth ys i ∧ atD xs ys (nth xs i) = 1 := by
  have hm := F.many
  refine ⟨tb_in F hc hi hi (Int.le_refl _) (Int.le_refl _), ?_⟩
  by_cases hl : i + 1 < xs.length
  · have hs := tb_step F hl
    obtain ⟨e1, e2⟩ := tb_seg F hc hl (Int.le_refl _) (by omega) (.inl (by omega))
    rw [e1, e2, Int.sub_self, Int.mul_zero, Int.add_zero]
    exact frac_mulT hs.1
  · obtain ⟨k, rfl⟩ : ∃ k, i = k + 1 := ⟨i - 1, by omega⟩
    have hs := tb_step F (i := k) (by omega)
    obtain ⟨e1, e2⟩ := tb_seg F hc (x := nth xs (k + 1)) (i := k) (by omega) (by omega) (Int.le_refl _) (.inr (by omega))
    rw [e1, e2]
    have : nth ys k * (nth xs (k + 1) - nth xs k) + (nth ys (k + 1) - nth ys k) * (nth xs (k + 1) - nth xs k) = nth ys (k + 1) * (nth xs (k + 1) - nth xs k) := by
      rw [← Int.add_mul]; congr 1; omega
    rw [this]
    exact frac_mulT hs.1
theorem tb_den (hc : curveB xs ys = true) {x : Int} (h0 : nth xs 0 ≤ x) (h1 : x ≤ nth xs (xs.length - 1)) : atFlag xs ys x = true ∧ 1 ≤ atD xs ys x ∧ atD xs ys x ≤ 200000 := by
  have hm := F.many
  have hf := tb_in F hc (x := x) (a := 0) (b := xs.length - 1) (by omega) (by omega) h0 h1
  refine ⟨hf, ?_⟩
  have hl := lowAt_lt (zs := xs) (x := x) (by omega)
  have hs := tb_step F (i := lowAt xs x) (by omega)
  unfold atD
  rw [if_pos hf]
  have := frac_den (n := atNum xs ys x) (d := atDen xs x) (by unfold atDen; omega)
  unfold atDen at this ⊢
  omega
omit F in
theorem lin_between {x0 x1 y0 y1 x : Int} (h0 : x0 ≤ x) (h1 : x ≤ x1) : min y0 y1 * (x1 - x0) ≤ y0 * (x1 - x0) + (y1 - y0) * (x - x0) ∧ y0 * (x1 - x0) + (y1 - y0) * (x - x0) ≤ max y0 y1 * (x1 - x0) := by
  rcases Int.le_total y0 y1 with h | h
  · have e1 := Int.mul_nonneg (a := y1 - y0) (b := x - x0) (by omega) (by omega)
    have e2 := Int.mul_nonneg (a := y1 - y0) (b := x1 - x) (by omega) (by omega)
    rw [Int.min_eq_left h, Int.max_eq_right h]
    simp only [Int.sub_mul, Int.mul_sub] at *
    omega
  · have e1 := Int.mul_nonneg (a := y0 - y1) (b := x - x0) (by omega) (by omega)
    have e2 := Int.mul_nonneg (a := y0 - y1) (b := x1 - x) (by omega) (by omega)
    rw [Int.min_eq_right h, Int.max_eq_left h]
    simp only [Int.sub_mul, Int.mul_sub] at *
    omega
/-- Between two places a number between theirs. -/
theorem tb_between (hc : curveB xs ys = true) {x : Int} {i : Nat} (hi : i + 1 < xs.length) (h0 : nth xs i ≤ x) (h1 : x ≤ nth xs (i + 1)) :
    min (nth ys i) (nth ys (i + 1)) * atD xs ys x ≤ atN xs ys x ∧ atN xs ys x ≤ max (nth ys i) (nth ys (i + 1)) * atD xs ys x := by
  by_cases hx : x = nth xs (i + 1)
  · obtain ⟨_, e1, e2⟩ := tb_node F hc hi
    rw [hx, e1, e2]
    omega
  · have hs := tb_step F hi
    obtain ⟨e1, e2⟩ := tb_seg F hc hi h0 h1 (.inl (by omega))
    rw [e1, e2]
    have hb := lin_between (x0 := nth xs i) (x1 := nth xs (i + 1)) (y0 := nth ys i) (y1 := nth ys (i + 1)) h0 h1
    exact ⟨frac_ge hs.1 hb.1, frac_le hs.1 hb.2⟩
omit F in
theorem reach_facts {x0 x1 y0 y1 y : Int} (hx : x0 < x1) (hy0 : y0 < y) (hy1 : y ≤ y1) :
    (x0 < reachOf x0 x1 y0 y1 y ∧ reachOf x0 x1 y0 y1 y ≤ x1) ∧ y * (x1 - x0) ≤ y0 * (x1 - x0) + (y1 - y0) * (reachOf x0 x1 y0 y1 y - x0) ∧ y0 * (x1 - x0) + (y1 - y0) * (reachOf x0 x1 y0 y1 y - 1 - x0) < y * (x1 - x0) := by
  obtain ⟨e, he⟩ : ∃ e, y1 - y0 = e := ⟨_, rfl⟩
  obtain ⟨d, hd⟩ : ∃ d, x1 - x0 = d := ⟨_, rfl⟩
  obtain ⟨T, hT⟩ : ∃ T, (y - y0) * d = T := ⟨_, rfl⟩
  obtain ⟨q, hq⟩ : ∃ q, (T + e - 1) / e = q := ⟨_, rfl⟩
  have hr : reachOf x0 x1 y0 y1 y = x0 + q := by unfold reachOf; rw [he, hd, hT, hq]
  have hT1 : 1 ≤ T := by
    have := Int.mul_le_mul_of_nonneg_left (a := 1) (b := d) (c := y - y0) (by omega) (by omega)
    omega
  have hm := Int.mul_ediv_add_emod (T + e - 1) e
  have hl := Int.emod_lt_of_pos (T + e - 1) (show 0 < e by omega)
  have hg := Int.emod_nonneg (T + e - 1) (show e ≠ 0 by omega)
  rw [hq] at hm
  have hTe : T ≤ e * d := by
    have := Int.mul_nonneg (a := y1 - y) (b := d) (by omega) (by omega)
    have h2 : (y1 - y) * d = e * d - T := by rw [← hT, ← he, ← Int.sub_mul]; congr 1; omega
    omega
  have q1 : 1 ≤ q := by
    rcases (show 0 < q ∨ q ≤ 0 by omega) with h | h
    · omega
    · have := Int.mul_nonneg (a := e) (b := -q) (by omega) (by omega)
      rw [Int.mul_neg] at this
      omega
  have q2 : q ≤ d := by
    rcases (show d < q ∨ q ≤ d by omega) with h | h
    · have := Int.mul_le_mul_of_nonneg_left (a := d + 1) (b := q) (c := e) (by omega) (by omega)
      rw [Int.mul_add, Int.mul_one] at this
      omega
    · exact h
  rw [hr, he, hd]
  have a1 : x0 + q - x0 = q := by omega
  have a2 : x0 + q - 1 - x0 = q - 1 := by omega
  rw [a1, a2, Int.mul_sub, Int.mul_one]
  have hTy : T = y * d - y0 * d := by rw [← hT, Int.sub_mul]
  refine ⟨⟨by omega, by omega⟩, by omega, by omega⟩
/-- Where a number of the table is reached: there it suffices, one place ahead it does not. -/
theorem tb_find (hc : curveB xs ys = true) {m : Nat} (hm : m < xs.length) : findB xs ys (nth ys m) = true ∧ (nth xs 0 ≤ findA xs ys (nth ys m) ∧ findA xs ys (nth ys m) ≤ nth xs (xs.length - 1)) ∧ nth ys m * atD xs ys (findA xs ys (nth ys m)) ≤ atN xs ys (findA xs ys (nth ys m)) ∧
    (atFlag xs ys (findA xs ys (nth ys m) - 1) = false ∨ (nth xs 0 ≤ findA xs ys (nth ys m) - 1 ∧ findA xs ys (nth ys m) - 1 ≤ nth xs (xs.length - 1)) ∧ atN xs ys (findA xs ys (nth ys m) - 1) < nth ys m * atD xs ys (findA xs ys (nth ys m) - 1)) := by
  have hlen := F.len
  have hmany := F.many
  obtain ⟨y, hy⟩ : ∃ y, nth ys m = y := ⟨_, rfl⟩
  rw [hy]
  obtain ⟨i, hi, hyi, hb⟩ : ∃ i, i < ys.length ∧ y ≤ nth ys i ∧ ∀ j, j < i → nth ys j < y := by
    have : ∃ i, i < ys.length ∧ y ≤ nth ys i := ⟨m, by omega, by omega⟩
    obtain ⟨i, h⟩ := this
    induction i using Nat.strongRecOn with
    | ind i ih =>
      by_cases q : ∃ j, j < i ∧ y ≤ nth ys j
      · obtain ⟨j, hj, hyj⟩ := q
        exact ih j hj ⟨by omega, hyj⟩
      · exact ⟨i, h.1, h.2, fun j hj => by
          rcases (show nth ys j < y ∨ y ≤ nth ys j by omega) with z | z
          · exact z
          · exact absurd ⟨j, hj, z⟩ q⟩
  cases i with
  | zero =>
    obtain ⟨e1, e2⟩ := find_zero (y := y) hc hi hyi
    rw [e1, e2]
    obtain ⟨_, n1, n2⟩ := tb_node F hc (i := 0) (by omega)
    have u := tb_up F (a := 0) (b := xs.length - 1) (by omega) (by omega)
    refine ⟨rfl, ⟨Int.le_refl _, u⟩, by rw [n1, n2]; omega, .inl ?_⟩
    unfold atFlag
    rw [hc, Bool.true_and]
    simp only [inB, decide_eq_false_iff_not]
    omega
  | succ j =>
    have hj1 : j + 1 < xs.length := by omega
    obtain ⟨e1, e2⟩ := find_some (y := y) hc hi hyi hb
    have hyj := hb j (by omega)
    have hs := tb_step F hj1
    obtain ⟨⟨r1, r2⟩, r3, r4⟩ := reach_facts (x0 := nth xs j) (x1 := nth xs (j + 1)) (y0 := nth ys j) (y1 := nth ys (j + 1)) (y := y) (by omega) hyj hyi
    rw [e1, e2]
    obtain ⟨k, hk⟩ : ∃ k, reachOf (nth xs j) (nth xs (j + 1)) (nth ys j) (nth ys (j + 1)) y = k := ⟨_, rfl⟩
    rw [hk] at r1 r2 r3 r4 ⊢
    have u0 := tb_up F (a := 0) (b := j) (by omega) (by omega)
    have u1 := tb_up F (a := j + 1) (b := xs.length - 1) (by omega) (by omega)
    refine ⟨rfl, ⟨by omega, by omega⟩, ?_, .inr ⟨⟨by omega, by omega⟩, ?_⟩⟩
    · by_cases hx : k = nth xs (j + 1)
      · obtain ⟨_, n1, n2⟩ := tb_node F hc hj1
        rw [hx, n1, n2]; omega
      · obtain ⟨s1, s2⟩ := tb_seg F hc hj1 (x := k) (by omega) r2 (.inl (by omega))
        rw [s1, s2]
        exact frac_ge hs.1 r3
    · obtain ⟨s1, s2⟩ := tb_seg F hc hj1 (x := k - 1) (by omega) (by omega) (.inl (by omega))
      rw [s1, s2]
      exact frac_lt hs.1 r4
end

end Go.Proofs.Ytikhfacgoglcfaa
