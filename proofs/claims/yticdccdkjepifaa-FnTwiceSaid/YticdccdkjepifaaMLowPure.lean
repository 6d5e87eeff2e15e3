/-
  Plain mathematics: bounds on products, and the lesser neighbour of a place in a list. No program here.
  Data buses in plain numbers: whether words and receivers are so, what is taken, whose slot it is. No program here.
-/
import Derived.Test.YticdccdkjepifaaBase

namespace Go.Proofs.Yticdccdkjepifaa

theorem mulBd {s d A B : Int} (h1 : -A ≤ s) (h2 : s ≤ A) (h3 : -B ≤ d) (h4 : d ≤ B) (_hA : 0 ≤ A) (_hB : 0 ≤ B) : -(A * B) ≤ s * d ∧ s * d ≤ A * B := by
  have e1 : 0 ≤ (A - s) * (B - d) := Int.mul_nonneg (by omega) (by omega)
  have e2 : 0 ≤ (A + s) * (B + d) := Int.mul_nonneg (by omega) (by omega)
  have e3 : 0 ≤ (A - s) * (B + d) := Int.mul_nonneg (by omega) (by omega)
  have e4 : 0 ≤ (A + s) * (B - d) := Int.mul_nonneg (by omega) (by omega)
  simp only [Int.sub_mul, Int.add_mul, Int.mul_sub, Int.mul_add] at e1 e2 e3 e4
  constructor <;> omega

/-- Whether the place of the lesser neighbour is behind i. -/
def beyond (zs : List Int) (x : Int) (i : Nat) : Bool := decide (i + 2 < zs.length ∧ nth zs (i + 1) ≤ x)
def lowAt (zs : List Int) (x : Int) : Nat := ((List.range zs.length).find? fun i => !beyond zs x i).getD 0

theorem beyond_true {zs : List Int} {x : Int} {i : Nat} (h : i + 2 < zs.length) (h' : nth zs (i + 1) ≤ x) : beyond zs x i = true := by
  simp only [beyond, decide_eq_true_eq]; exact ⟨h, h'⟩
theorem beyond_end {zs : List Int} {x : Int} {i : Nat} (h : ¬ i + 2 < zs.length) : beyond zs x i = false := by
  simp only [beyond, decide_eq_false_iff_not]; exact fun k => h k.1
theorem beyond_less {zs : List Int} {x : Int} {i : Nat} (h : ¬ nth zs (i + 1) ≤ x) : beyond zs x i = false := by
  simp only [beyond, decide_eq_false_iff_not]; exact fun k => h k.2
theorem lowAt_is {zs : List Int} {x : Int} {k : Nat} (hk : k < zs.length) (h : beyond zs x k = false) (hb : ∀ j, j < k → beyond zs x j = true) : lowAt zs x = k := by
  unfold lowAt
  have : (List.range zs.length).find? (fun i => !beyond zs x i) = some k := by
    rw [List.find?_range_eq_some]
    refine ⟨by simp [h], by simpa using hk, fun j hj => ?_⟩
    simp [hb j hj]
  rw [this]; rfl

/-- The lesser neighbour has one behind it. -/
theorem lowAt_lt {zs : List Int} {x : Int} (h : 2 ≤ zs.length) : lowAt zs x + 2 ≤ zs.length := by
  have he : beyond zs x (zs.length - 2) = false := beyond_end (by omega)
  unfold lowAt
  cases hf : (List.range zs.length).find? (fun i => !beyond zs x i) with
  | none => simp; omega
  | some i =>
    rw [List.find?_range_eq_some] at hf
    have := hf.2.2 (zs.length - 2)
    rw [he] at this
    simp only [Option.getD_some]
    by_cases c : zs.length - 2 < i
    · have := this c; simp at this
    · omega

/-- The products and sums of one value between two neighbours. -/
theorem between_bd {x0 x1 y0 y1 x B C : Int} (h1 : -B ≤ x0 ∧ x0 ≤ B) (h2 : -B ≤ x1 ∧ x1 ≤ B) (h3 : -C ≤ y0 ∧ y0 ≤ C) (h4 : -C ≤ y1 ∧ y1 ≤ C) (h5 : -B ≤ x ∧ x ≤ B) :
    (-(C * (2 * B)) ≤ y0 * (x1 - x0) ∧ y0 * (x1 - x0) ≤ C * (2 * B)) ∧ (-(2 * C * (2 * B)) ≤ (y1 - y0) * (x - x0) ∧ (y1 - y0) * (x - x0) ≤ 2 * C * (2 * B)) := by
  exact ⟨mulBd (by omega) (by omega) (by omega) (by omega) (by omega) (by omega), mulBd (by omega) (by omega) (by omega) (by omega) (by omega) (by omega)⟩

theorem ret_pair1 {k : IntKind} {a b : Int} {c : Bool} (h : a = b) : Ending.returned (.tuple #[.int k a, .bool c]) = .returned (.tuple #[.int k b, .bool c]) := by rw [h]

theorem ret_ib {a b : Int} {c d : Bool} (h : a = b) (h2 : c = d) : Ending.returned (.tuple #[.int .i64 a, .bool c]) = .returned (.tuple #[.int .i64 b, .bool d]) := by rw [h, h2]

theorem in_facts {x a b : Int} (h : inB x a b = true) : a ≤ x ∧ x ≤ b := by simpa [inB] using h

end Go.Proofs.Yticdccdkjepifaa

namespace Go.Proofs.Yticdccdkjepifaa
open Go

/-- Whether a word is so: its link, its sequence, how many bytes. -/
def wdB (l s : Int) (n : Nat) : Bool := inB l 1 255 && inB s 0 255 && decide (n ≤ 32)
/-- Whether a receiver is so. -/
def rvB (l n k : Int) : Bool := inB l 1 255 && inB n (-1) 255 && inB k 1 100
/-- How far a word is ahead of what is due. -/
def acD (n s : Int) : Int := if 0 ≤ n then (s - n + 256) % 256 else 0
/-- Whether a word is taken; what is due then; how many were missed. -/
def acB (rl n k wl s : Int) (len : Nat) : Bool := rvB rl n k && wdB wl s len && (wl == rl) && decide (acD n s < k)
def acN (rl n k wl s : Int) (len : Nat) : Int := if acB rl n k wl s len = true then (s + 1) % 256 else n
def acM (rl n k wl s : Int) (len : Nat) : Int := if acB rl n k wl s len = true then acD n s else 0
theorem rvB_facts {l n k : Int} (h : rvB l n k = true) : (1 ≤ l ∧ l ≤ 255) ∧ (-1 ≤ n ∧ n ≤ 255) ∧ (1 ≤ k ∧ k ≤ 100) := by
  simp only [rvB, Bool.and_eq_true] at h
  exact ⟨in_facts h.1.1, in_facts h.1.2, in_facts h.2⟩
theorem wdB_facts {l s : Int} {n : Nat} (h : wdB l s n = true) : (1 ≤ l ∧ l ≤ 255) ∧ (0 ≤ s ∧ s ≤ 255) ∧ n ≤ 32 := by
  simp only [wdB, Bool.and_eq_true, decide_eq_true_eq] at h
  exact ⟨in_facts h.1.1, in_facts h.1.2, h.2⟩
theorem ac_no {rl n k wl s : Int} {len : Nat} (h : acB rl n k wl s len = false) : acN rl n k wl s len = n ∧ acM rl n k wl s len = 0 := by simp [acN, acM, h]
theorem ac_yes {rl n k wl s : Int} {len : Nat} (h : acB rl n k wl s len = true) : acN rl n k wl s len = (s + 1) % 256 ∧ acM rl n k wl s len = acD n s := by simp [acN, acM, h]
theorem acD_bd (n s : Int) : 0 ≤ acD n s ∧ acD n s ≤ 255 := by unfold acD; split <;> omega

/-- Whether a plan is so; whose slot it is. -/
def plB (gs : List Int) : Bool := inB gs.length 1 40 && allB gs 0 255
def slB16 (gs : List Int) (t : Int) : Bool := plB gs && inB t 0 100000000
def slR16 (gs : List Int) (t : Int) : Int := if slB16 gs t = true then nth gs (t % (gs.length : Int)).toNat else 0
theorem plB_facts {gs : List Int} (h : plB gs = true) : (1 ≤ gs.length ∧ gs.length ≤ 40) ∧ allB gs 0 255 = true := by
  simp only [plB, Bool.and_eq_true] at h
  have := in_facts h.1
  exact ⟨by omega, h.2⟩

/-- How many slots from the one at i to the link's next one; the greatest of those of the first k places. -/
def gpD (gs : List Int) (link : Int) (i : Nat) : Nat := ((List.range gs.length).find? fun d => nth gs ((i + (d + 1)) % gs.length) == link).getD 0 + 1
def gpK (gs : List Int) (link : Int) : Nat → Int
  | 0 => 0
  | k + 1 => if nth gs k = link then max (gpK gs link k) (gpD gs link k) else gpK gs link k
def gpB (gs : List Int) (link : Int) : Bool := plB gs && !(link == 0) && decide (0 < gpK gs link gs.length)
def gpR (gs : List Int) (link : Int) : Int := if (plB gs && !(link == 0)) = true then gpK gs link gs.length else 0
theorem gpD_is {gs : List Int} {link : Int} {i d : Nat} (hd : d < gs.length) (h : nth gs ((i + (d + 1)) % gs.length) = link) (hb : ∀ j, j < d → ¬ nth gs ((i + (j + 1)) % gs.length) = link) : gpD gs link i = d + 1 := by
  unfold gpD
  have : (List.range gs.length).find? (fun d => nth gs ((i + (d + 1)) % gs.length) == link) = some d := by
    rw [List.find?_range_eq_some]
    refine ⟨by simpa using h, by simpa using hd, fun j hj => ?_⟩
    have := hb j hj
    simpa using this
  rw [this]; rfl
theorem gpD_le (gs : List Int) (link : Int) (i : Nat) (h : 1 ≤ gs.length) : gpD gs link i ≤ gs.length := by
  unfold gpD
  cases e : (List.range gs.length).find? (fun d => nth gs ((i + (d + 1)) % gs.length) == link) with
  | none => simp; omega
  | some d =>
    rw [List.find?_range_eq_some] at e
    have := e.2.1
    simp at this ⊢
    omega
theorem gpK_bd (gs : List Int) (link : Int) (h : 1 ≤ gs.length) : ∀ k, 0 ≤ gpK gs link k ∧ gpK gs link k ≤ gs.length
  | 0 => by simp [gpK]
  | k + 1 => by
    have ih := gpK_bd gs link h k
    have := gpD_le gs link k h
    unfold gpK
    split <;> omega

end Go.Proofs.Yticdccdkjepifaa
