/-
  Pushes forth and back, in plain numbers. No program here.
-/
import Derived.Test.YtidgkkldhnckeaeInPure
namespace Go.Proofs.Ytidgkkldhnckeae
open Go

theorem elAt_l {α : Type} [Inhabited α] {xs ys : List α} {j : Nat} (h : j < xs.length) : elAt (xs ++ ys) j = elAt xs j := by
  unfold elAt; rw [List.getElem?_append_left h]
theorem elAt_r {α : Type} [Inhabited α] (xs ys : List α) (j : Nat) : elAt (xs ++ ys) (xs.length + j) = elAt ys j := by
  unfold elAt; rw [List.getElem?_append_right (by omega)]; congr 2; omega
/-- Each push is small. -/
def PuSm (zs : List Pu) : Prop := ∀ j, j < zs.length → (-10 ≤ (elAt zs j).a0 ∧ (elAt zs j).a0 ≤ 10) ∧ (-10 ≤ (elAt zs j).a1 ∧ (elAt zs j).a1 ≤ 10)
theorem PuSm.nil : PuSm [] := fun j hj => by simp at hj
theorem PuSm.app {xs ys : List Pu} (h1 : PuSm xs) (h2 : PuSm ys) : PuSm (xs ++ ys) := by
  intro j hj
  rw [List.length_append] at hj
  by_cases e : j < xs.length
  · rw [elAt_l e]; exact h1 j e
  · obtain ⟨i, rfl⟩ : ∃ i, j = xs.length + i := ⟨j - xs.length, by omega⟩
    rw [elAt_r]; exact h2 i (by omega)
theorem PuSm.one {a b : Int} (h1 : -10 ≤ a ∧ a ≤ 10) (h2 : -10 ≤ b ∧ b ≤ 10) : PuSm [⟨a, b⟩] := by
  intro j hj
  obtain rfl : j = 0 := by simp at hj; omega
  exact ⟨h1, h2⟩
/-- The pushes forth. -/
def fth (f : Nat → Int) : Nat → List Pu
  | 0 => []
  | k + 1 => fth f k ++ [⟨(f (k + 3)).tmod 21 - 10, (f (k + 23)).tmod 21 - 10⟩]
theorem fth_len (f : Nat → Int) : ∀ k, (fth f k).length = k
  | 0 => rfl
  | k + 1 => by simp [fth, fth_len f k]
theorem tm21 {x : Int} (h : 0 ≤ x) : -10 ≤ x.tmod 21 - 10 ∧ x.tmod 21 - 10 ≤ 10 := by
  rw [Int.tmod_eq_emod_of_nonneg h]; omega
theorem fth_sm {f : Nat → Int} (h : ∀ i, 0 ≤ f i) : ∀ k, PuSm (fth f k)
  | 0 => PuSm.nil
  | k + 1 => (fth_sm h k).app (PuSm.one (tm21 (h _)) (tm21 (h _)))
/-- The pushes back. -/
def bck (ps : List Pu) : Nat → List Pu
  | 0 => []
  | k + 1 => bck ps k ++ [⟨-(elAt ps (ps.length - 1 - k)).a0, -(elAt ps (ps.length - 1 - k)).a1⟩]
theorem bck_len (ps : List Pu) : ∀ k, (bck ps k).length = k
  | 0 => rfl
  | k + 1 => by simp [bck, bck_len ps k]
theorem bck_sm {ps : List Pu} (h : PuSm ps) : ∀ k, k ≤ ps.length → PuSm (bck ps k)
  | 0, _ => PuSm.nil
  | k + 1, hk => by
    have := h (ps.length - 1 - k) (by omega)
    exact (bck_sm h k (by omega)).app (PuSm.one (by omega) (by omega))
theorem elAt_last {α : Type} [Inhabited α] (xs : List α) (x : α) : elAt (xs ++ [x]) xs.length = x := by
  have := elAt_r xs [x] 0
  rw [Nat.add_zero] at this
  rw [this]; rfl
theorem bck_at (ps : List Pu) : ∀ k j, j < k → elAt (bck ps k) j = ⟨-(elAt ps (ps.length - 1 - j)).a0, -(elAt ps (ps.length - 1 - j)).a1⟩
  | 0, j, h => by omega
  | k + 1, j, h => by
    by_cases e : j < k
    · rw [bck, elAt_l (by rw [bck_len]; exact e)]; exact bck_at ps k j e
    · obtain rfl : j = k := by omega
      have := elAt_last (bck ps j) ⟨-(elAt ps (ps.length - 1 - j)).a0, -(elAt ps (ps.length - 1 - j)).a1⟩
      rw [bck_len] at this
      rw [bck]; exact this
/-- What the first k pushes come to. -/
def sx (zs : List Pu) : Nat → Int
  | 0 => 0
  | k + 1 => sx zs k + (elAt zs k).a0
def sy (zs : List Pu) : Nat → Int
  | 0 => 0
  | k + 1 => sy zs k + (elAt zs k).a1
theorem inAt_v (d : Dt) (zs : List Pu) : ∀ k, (inAt d zs k).a2 = d.a2 + sx zs k ∧ (inAt d zs k).a3 = d.a3 + sy zs k
  | 0 => by simp [inAt, sx, sy]
  | k + 1 => by have := inAt_v d zs k; simp only [inAt, inSt, sx, sy]; omega
theorem inAt_left (d : Dt) (xs ys : List Pu) : ∀ k, k ≤ xs.length → inAt d (xs ++ ys) k = inAt d xs k
  | 0, _ => rfl
  | k + 1, h => by rw [inAt, inAt, inAt_left d xs ys k (by omega), elAt_l (by omega)]
theorem inAt_right (d : Dt) (xs ys : List Pu) : ∀ i, inAt d (xs ++ ys) (xs.length + i) = inAt (inAt d xs xs.length) ys i
  | 0 => by rw [Nat.add_zero, inAt_left d xs ys _ (Nat.le_refl _)]; rfl
  | i + 1 => by rw [← Nat.add_assoc, inAt, inAt_right d xs ys i, elAt_r]; rfl
theorem sx_back (ps : List Pu) : ∀ i, i ≤ ps.length → sx (bck ps ps.length) i = sx ps (ps.length - i) - sx ps ps.length ∧ sy (bck ps ps.length) i = sy ps (ps.length - i) - sy ps ps.length
  | 0, _ => by simp [sx, sy]
  | i + 1, h => by
    have ih := sx_back ps i (by omega)
    rw [sx, sy, bck_at ps _ i (by omega)]
    obtain ⟨m, hm⟩ : ∃ m, ps.length - 1 - i = m := ⟨_, rfl⟩
    have e1 : ps.length - i = m + 1 := by omega
    have e2 : ps.length - (i + 1) = m := by omega
    rw [e1, sx, sy] at ih
    rw [hm, e2]
    simp only
    omega
theorem inAt_bdA {d : Dt} {zs : List Pu} (hz : PuSm zs) (h0 : -300 ≤ d.a0 ∧ d.a0 ≤ 300) (h1 : -300 ≤ d.a1 ∧ d.a1 ≤ 300) (h2 : d.a2 = 0) (h3 : d.a3 = 0) : ∀ k : Nat, k ≤ 40 → k ≤ zs.length → (-(10 * (k : Int)) ≤ (inAt d zs k).a2 ∧ (inAt d zs k).a2 ≤ 10 * k) ∧ (-(10 * (k : Int)) ≤ (inAt d zs k).a3 ∧ (inAt d zs k).a3 ≤ 10 * k) ∧ (-(300 + 400 * (k : Int)) ≤ (inAt d zs k).a0 ∧ (inAt d zs k).a0 ≤ 300 + 400 * k) ∧ (-(300 + 400 * (k : Int)) ≤ (inAt d zs k).a1 ∧ (inAt d zs k).a1 ≤ 300 + 400 * k)
  | 0, _, _ => by simp only [inAt]; omega
  | k + 1, hk, hl => by
    have ih := inAt_bdA hz h0 h1 h2 h3 k (by omega) (by omega)
    have := hz k (by omega)
    simp only [inAt, inSt]
    omega
theorem inAt_bdB {d : Dt} {zs : List Pu} (hz : PuSm zs) (h0 : -100000 ≤ d.a0 ∧ d.a0 ≤ 100000) (h1 : -100000 ≤ d.a1 ∧ d.a1 ≤ 100000) (h2 : -1000 ≤ d.a2 ∧ d.a2 ≤ 1000) (h3 : -1000 ≤ d.a3 ∧ d.a3 ≤ 1000) : ∀ k : Nat, k ≤ 40 → k ≤ zs.length → (-(1000 + 10 * (k : Int)) ≤ (inAt d zs k).a2 ∧ (inAt d zs k).a2 ≤ 1000 + 10 * k) ∧ (-(1000 + 10 * (k : Int)) ≤ (inAt d zs k).a3 ∧ (inAt d zs k).a3 ≤ 1000 + 10 * k) ∧ (-(100000 + 1400 * (k : Int)) ≤ (inAt d zs k).a0 ∧ (inAt d zs k).a0 ≤ 100000 + 1400 * k) ∧ (-(100000 + 1400 * (k : Int)) ≤ (inAt d zs k).a1 ∧ (inAt d zs k).a1 ≤ 100000 + 1400 * k)
  | 0, _, _ => by simp only [inAt]; omega
  | k + 1, hk, hl => by
    have ih := inAt_bdB hz h0 h1 h2 h3 k (by omega) (by omega)
    have := hz k (by omega)
    simp only [inAt, inSt]
    omega
theorem in_ok {x a b : Int} (h : a ≤ x ∧ x ≤ b) : inB x a b = true := by simpa [inB] using h
theorem inOk_small {d : Dt} {zs : List Pu} (hz : PuSm zs) (hl : zs.length ≤ 40) (h0 : -100000 ≤ d.a0 ∧ d.a0 ≤ 100000) (h1 : -100000 ≤ d.a1 ∧ d.a1 ≤ 100000) (h2 : -1000 ≤ d.a2 ∧ d.a2 ≤ 1000) (h3 : -1000 ≤ d.a3 ∧ d.a3 ≤ 1000) : inOk d zs = true := by
  refine inOk_yes ?_ (by omega) (fun k hk => ?_)
  · unfold dtD dtB
    rw [in_ok (by omega), in_ok (by omega), in_ok (by omega), in_ok (by omega)]; rfl
  · have b := inAt_bdB hz h0 h1 h2 h3 (k + 1) (by omega) (by omega)
    have s := hz k hk
    unfold inOne dtD dtB puB
    rw [in_ok (by omega), in_ok (by omega), in_ok (by omega), in_ok (by omega), in_ok (by omega), in_ok (by omega)]; rfl

/-- All of it together: forth and back the aircraft stands, and the half way goes on as the whole. -/
structure Forth (d : Dt) (ps : List Pu) (n : Nat) (E H : Dt) : Prop where
  whole : inOk d (ps ++ bck ps n) = true
  wholeR : inR d (ps ++ bck ps n) = E
  half : inOk d ps = true
  halfR : inR d ps = H
  rest : inOk H (bck ps n) = true
  restR : inR H (bck ps n) = E
  vx : E.a2 = 0
  vy : E.a3 = 0
theorem forth {d : Dt} {ps : List Pu} {n : Nat} (hn : ps.length = n) (hl : n ≤ 19) (hz : PuSm ps) (h0 : -300 ≤ d.a0 ∧ d.a0 ≤ 300) (h1 : -300 ≤ d.a1 ∧ d.a1 ≤ 300) (h2 : d.a2 = 0) (h3 : d.a3 = 0) : ∃ E H, Forth d ps n E H := by
  subst hn
  have zb := bck_sm hz ps.length (Nat.le_refl _)
  have za := hz.app zb
  have la : (ps ++ bck ps ps.length).length = ps.length + ps.length := by rw [List.length_append, bck_len]
  have bA := inAt_bdA hz h0 h1 h2 h3 ps.length (by omega) (Nat.le_refl _)
  have o1 : inOk d (ps ++ bck ps ps.length) = true := inOk_small za (by omega) (by omega) (by omega) (by omega) (by omega)
  have o2 : inOk d ps = true := inOk_small hz (by omega) (by omega) (by omega) (by omega) (by omega)
  have o3 : inOk (inAt d ps ps.length) (bck ps ps.length) = true := inOk_small zb (by rw [bck_len]; omega) (by omega) (by omega) (by omega) (by omega)
  have eR : inAt d (ps ++ bck ps ps.length) (ps.length + ps.length) = inAt (inAt d ps ps.length) (bck ps ps.length) ps.length := inAt_right d ps _ ps.length
  have sb := sx_back ps ps.length (Nat.le_refl _)
  have v1 := inAt_v d ps ps.length
  have v2 := inAt_v (inAt d ps ps.length) (bck ps ps.length) ps.length
  refine ⟨inAt (inAt d ps ps.length) (bck ps ps.length) ps.length, inAt d ps ps.length, o1, ?_, o2, inR_yes o2, o3, ?_, ?_, ?_⟩
  · rw [inR_yes o1, la]; exact eR
  · rw [inR_yes o3, bck_len]
  · rw [Nat.sub_self] at sb; simp only [sx, sy] at sb; omega
  · rw [Nat.sub_self] at sb; simp only [sx, sy] at sb; omega

theorem blR_whole (x p : Int) : blR x p 100 = p := by
  unfold blR; rw [Int.mul_tdiv_cancel _ (by omega)]; omega
theorem blR_none (x p : Int) : blR x p 0 = x := by
  unfold blR; rw [Int.mul_zero]; simp
/-- The size of a number, and the square told by its sign. -/
def sizeI (x : Int) : Int := if x < 0 then -x else x
theorem bs_seven (px py : Int) : bsR 0 0 0 7 px py = if bsB 0 0 0 7 px py = true then px * sizeI px else 0 := by
  unfold bsR
  have hc : bsC 0 0 0 7 px py = -(7 * px) := by unfold bsC; omega
  have hf : bsF 0 0 0 7 px py = px * px := by
    unfold bsF
    rw [hc, Int.neg_mul_neg]
    have e : 7 * px * (7 * px) = px * px * 49 := by
      rw [Int.mul_assoc, Int.mul_left_comm px 7 px, ← Int.mul_assoc 7 7]; omega
    rw [e]
    exact Int.mul_tdiv_cancel _ (by omega)
  rw [hc, hf]
  by_cases h : px < 0
  · rw [if_pos (show 0 < -(7 * px) by omega)]; simp [sizeI, h, Int.mul_neg]
  · rw [if_neg (show ¬ 0 < -(7 * px) by omega)]; simp [sizeI, h]

end Go.Proofs.Ytidgkkldhnckeae
