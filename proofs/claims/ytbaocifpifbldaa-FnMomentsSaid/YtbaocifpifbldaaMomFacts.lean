/-
  Plain facts of moments: a list's sums are those of both halves; what is inside an envelope of one width. No program here.
-/
import Derived.Test.YtbaocifpifbldaaSumPure
import Derived.Test.YtbaocifpifbldaaInsPure
namespace Go.Proofs.Ytbaocifpifbldaa

theorem sum_congr {ps qs : List (Int × Int)} (n : Nat) (h : ∀ j, j < n → fstAt ps j = fstAt qs j ∧ sndAt ps j = sndAt qs j) : sumM ps n = sumM qs n ∧ sumQ ps n = sumQ qs n := by
  induction n with
  | zero => exact ⟨rfl, rfl⟩
  | succ n ih =>
    obtain ⟨i1, i2⟩ := ih fun j hj => h j (by omega)
    obtain ⟨h1, h2⟩ := h n (by omega)
    simp only [sumM_succ, sumQ_succ, i1, i2, h1, h2, and_self]
theorem take_is (ps : List (Int × Int)) {k j : Nat} (h : j < k) : fstAt (ps.take k) j = fstAt ps j ∧ sndAt (ps.take k) j = sndAt ps j := by
  unfold fstAt sndAt
  rw [List.getElem?_take, if_pos h]
  exact ⟨rfl, rfl⟩
theorem drop_is (ps : List (Int × Int)) (k j : Nat) : fstAt (ps.drop k) j = fstAt ps (k + j) ∧ sndAt (ps.drop k) j = sndAt ps (k + j) := by
  unfold fstAt sndAt
  rw [List.getElem?_drop]
  exact ⟨rfl, rfl⟩
theorem sum_drop (ps : List (Int × Int)) (k n : Nat) : sumM ps (k + n) = sumM ps k + sumM (ps.drop k) n ∧ sumQ ps (k + n) = sumQ ps k + sumQ (ps.drop k) n := by
  induction n with
  | zero => simp [sumM, sumQ]
  | succ n ih =>
    obtain ⟨i1, i2⟩ := ih
    obtain ⟨h1, h2⟩ := drop_is ps k n
    rw [← Nat.add_assoc, sumM_succ, sumQ_succ, sumM_succ, sumQ_succ, i1, i2, h1, h2]
    constructor <;> omega
/-- The sums of a right list and of both halves. -/
theorem halves {ps : List (Int × Int)} {k : Nat} (hk : k ≤ ps.length) (h40 : ps.length ≤ 40) (hall : ∀ j, j < ps.length → itemB (fstAt ps j) (sndAt ps j) = true) :
    sumFlag ps = true ∧ sumA ps = sumA (ps.take k) + sumA (ps.drop k) ∧ sumB ps = sumB (ps.take k) + sumB (ps.drop k) := by
  obtain ⟨f1, a1, b1⟩ := sum_good h40 hall
  obtain ⟨f2, a2, b2⟩ := sum_good (ps := ps.take k) (by simp; omega) fun j hj => by
    have hj' : j < k := by simp at hj; omega
    rw [(take_is ps hj').1, (take_is ps hj').2]; exact hall j (by omega)
  obtain ⟨f3, a3, b3⟩ := sum_good (ps := ps.drop k) (by simp; omega) fun j hj => by
    have hj' : k + j < ps.length := by simp at hj; omega
    rw [(drop_is ps k j).1, (drop_is ps k j).2]; exact hall _ hj'
  have hl1 : (ps.take k).length = k := by simp; omega
  have hl2 : (ps.drop k).length = ps.length - k := by simp
  obtain ⟨c1, c2⟩ := sum_congr (ps := ps.take k) (qs := ps) k fun j hj => take_is ps hj
  obtain ⟨d1, d2⟩ := sum_drop ps k (ps.length - k)
  have hkl : k + (ps.length - k) = ps.length := by omega
  rw [hkl] at d1 d2
  refine ⟨f1, ?_, ?_⟩
  · rw [a1, a2, a3, hl1, hl2, c1, d1]
  · rw [b1, b2, b3, hl1, hl2, c2, d2]
theorem sums_bd {ps : List (Int × Int)} (h40 : ps.length ≤ 40) : (0 ≤ sumA ps ∧ sumA ps ≤ 400000) ∧ (-400000000 ≤ sumB ps ∧ sumB ps ≤ 400000000) := by
  unfold sumA sumB
  cases h : sumFlag ps
  · simp
  · simp only [sumFlag, itemsB, Bool.and_eq_true, decide_eq_true_eq] at h
    have := sum_bd ps.length h.2
    simp only [if_true]
    omega
theorem one_sum : sumFlag [(3, -4)] = true ∧ sumA [(3, -4)] = 3 ∧ sumB [(3, -4)] = -12 := by decide

theorem env_one : envB [1, 300000] [-20, -20] [30, 30] = true := by decide
theorem ins_one {m q : Int} (hm : 1 ≤ m ∧ m ≤ 300000) (hq : -1000000000 ≤ q ∧ q ≤ 1000000000) : insB [1, 300000] [-20, -20] [30, 30] m q = (decide (-20 * m ≤ q) && decide (q ≤ 30 * m)) := by
  have hl : lowAt [1, 300000] m = 0 := lowAt_is (by simp) (beyond_end (by simp)) (fun j hj => by omega)
  rw [ins_yes env_one hm.1 (by simp [inB, nth]; omega) (by simp [inB]; omega)]
  unfold foreB aftB bndAt widAt
  rw [hl]
  have e1 : nth [1, 300000] 0 = 1 := rfl
  have e2 : nth [1, 300000] (0 + 1) = 300000 := rfl
  have e3 : nth [-20, -20] 0 = -20 := rfl
  have e4 : nth [-20, -20] (0 + 1) = -20 := rfl
  have e5 : nth [30, 30] 0 = 30 := rfl
  have e6 : nth [30, 30] (0 + 1) = 30 := rfl
  rw [e1, e2, e3, e4, e5, e6]
  congr 1
  · apply decide_eq_decide.2; omega
  · apply decide_eq_decide.2; omega

end Go.Proofs.Ytbaocifpifbldaa
