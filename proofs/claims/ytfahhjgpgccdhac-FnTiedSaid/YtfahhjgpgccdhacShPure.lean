/-
  Shedding, plainly: what each island has, who is fed in the order of ranks, who is not; the places of those that are not fed, sorted, are the places that are not marked as fed. At ranks of 0 to 9.
-/
import Derived.Test.YtfahhjgpgccdhacLists
import Derived.Test.YtfahhjgpgccdhacOwnI
namespace Go.Proofs.Ytfahhjgpgccdhac
open Go.RowKit

/-- The place of a bus's island. -/
def isAt (is : List Int) (b : Int) : Nat := (nth is b.toNat).toNat
/-- What each island has, behind k sources. -/
def srcL (is : List Int) (ss : List Sr) (N : Nat) : Nat → List Int
  | 0 => List.replicate N 0
  | k + 1 => if (elAt ss k).a2 = true then (srcL is ss N k).set (isAt is (elAt ss k).a0) (nth (srcL is ss N k) (isAt is (elAt ss k).a0) + (elAt ss k).a1) else srcL is ss N k
structure ShSt where
  L : List Int
  F : List Bool
  W : List Int
/-- A use, looked at with a rank. -/
def stp (is : List Int) (us : List Us) (r i : Nat) (S : ShSt) : ShSt :=
  if (elAt us i).a2 = (r : Int) then
    (if (elAt us i).a1 ≤ nth S.L (isAt is (elAt us i).a0) then ⟨S.L.set (isAt is (elAt us i).a0) (nth S.L (isAt is (elAt us i).a0) - (elAt us i).a1), S.F.set i true, S.W⟩ else ⟨S.L, S.F, S.W ++ [(i : Int)]⟩)
  else S
def inn (is : List Int) (us : List Us) (r : Nat) (S : ShSt) : Nat → ShSt
  | 0 => S
  | i + 1 => stp is us r i (inn is us r S i)
def outr (is : List Int) (us : List Us) (S : ShSt) : Nat → ShSt
  | 0 => S
  | r + 1 => inn is us r (outr is us S r) us.length
/-- The places that are not marked. -/
def unK (F : List Bool) : Nat → List Int
  | 0 => []
  | k + 1 => if elAt F k = true then unK F k else unK F k ++ [(k : Int)]

theorem nth_rep (N i : Nat) : nth (List.replicate N 0) i = 0 := by
  unfold nth
  by_cases h : i < N
  · rw [List.getElem?_replicate]; simp [h]
  · rw [List.getElem?_replicate]; simp [h]
theorem srcL_len (is : List Int) (ss : List Sr) (N : Nat) : ∀ k, (srcL is ss N k).length = N
  | 0 => by simp [srcL]
  | k + 1 => by unfold srcL; split <;> simp [srcL_len is ss N k]
theorem srcL_bd (is : List Int) (ss : List Sr) (N : Nat) (hi : ∀ b, isAt is b < N) : ∀ k, (∀ j, j < k → 0 ≤ (elAt ss j).a1 ∧ (elAt ss j).a1 ≤ 100000) → ∀ i, 0 ≤ nth (srcL is ss N k) i ∧ nth (srcL is ss N k) i ≤ 100000 * k
  | 0, _, i => by rw [srcL, nth_rep]; omega
  | k + 1, h, i => by
    have ih := srcL_bd is ss N hi k (fun j hj => h j (by omega))
    have hk := h k (by omega)
    unfold srcL
    split
    · rw [nth_set _ _ _ _ (by rw [srcL_len]; exact hi _)]
      have := ih i
      have := ih (isAt is (elAt ss k).a0)
      split <;> omega
    · have := ih i; omega

/-- What holds of the lists all the while. -/
structure ShOk (N n m : Nat) (S : ShSt) : Prop where
  lL : S.L.length = N
  lF : S.F.length = n
  lW : S.W.length ≤ m
  bL : ∀ i, 0 ≤ nth S.L i ∧ nth S.L i ≤ 600000
  bW : ∀ i, 0 ≤ nth S.W i ∧ nth S.W i ≤ 1000
theorem nth_app1 (xs : List Int) (x : Int) (i : Nat) : nth (xs ++ [x]) i = if i < xs.length then nth xs i else if i = xs.length then x else 0 := by
  unfold nth
  by_cases h : i < xs.length
  · simp [h, List.getElem?_append_left h]
  · rw [List.getElem?_append_right (by omega)]
    by_cases h2 : i = xs.length
    · subst h2; simp
    · have : i - xs.length ≠ 0 := by omega
      simp [h, h2]
      rw [List.getElem?_eq_none (by simp; omega)]; rfl
theorem ShOk.stp {is : List Int} {us : List Us} {N m r i : Nat} {S : ShSt} (h : ShOk N us.length m S) (hi : ∀ b, isAt is b < N) (hu : 0 ≤ (elAt us i).a1) (hn : us.length ≤ 40) (hil : i < us.length) : ShOk N us.length (m + 1) (stp is us r i S) := by
  unfold Go.Proofs.Ytfahhjgpgccdhac.stp
  split
  · split
    · refine ⟨by simp [h.lL], by simp [h.lF], by have := h.lW; simp; omega, fun j => ?_, h.bW⟩
      simp only
      rw [nth_set _ _ _ _ (by rw [h.lL]; exact hi _)]
      have := h.bL j
      have := h.bL (isAt is (elAt us i).a0)
      split <;> omega
    · refine ⟨h.lL, h.lF, by have := h.lW; simp; omega, h.bL, fun j => ?_⟩
      simp only
      rw [nth_app1]
      have := h.bW j
      split
      · exact this
      · split <;> omega
  · exact ⟨h.lL, h.lF, by have := h.lW; omega, h.bL, h.bW⟩
theorem ShOk.inn {is : List Int} {us : List Us} {N m r : Nat} {S : ShSt} (h : ShOk N us.length m S) (hi : ∀ b, isAt is b < N) (hu : ∀ i, i < us.length → 0 ≤ (elAt us i).a1) (hn : us.length ≤ 40) : ∀ i, i ≤ us.length → ShOk N us.length (m + i) (inn is us r S i)
  | 0, _ => h
  | i + 1, hle => ShOk.stp (ShOk.inn h hi hu hn i (by omega)) hi (hu i (by omega)) hn (by omega)
theorem ShOk.outr {is : List Int} {us : List Us} {N : Nat} {S : ShSt} (h : ShOk N us.length 0 S) (hi : ∀ b, isAt is b < N) (hu : ∀ i, i < us.length → 0 ≤ (elAt us i).a1) (hn : us.length ≤ 40) : ∀ r, ShOk N us.length (r * us.length) (outr is us S r)
  | 0 => by simpa [Go.Proofs.Ytfahhjgpgccdhac.outr] using h
  | r + 1 => by
    have := ShOk.inn (r := r) (ShOk.outr h hi hu hn r) hi hu hn us.length (Nat.le_refl _)
    rw [Nat.succ_mul]; exact this

/-- Who has been looked at. -/
def seenB (us : List Us) (r i j : Nat) : Prop := (elAt us j).a2 < (r : Int) ∨ ((elAt us j).a2 = (r : Int) ∧ j < i)
structure ShInv (us : List Us) (r i : Nat) (S : ShSt) : Prop where
  yes : ∀ j : Nat, j < us.length → seenB us r i j → S.W.count (j : Int) = if elAt S.F j = true then 0 else 1
  no : ∀ j : Nat, j < us.length → ¬ seenB us r i j → S.W.count (j : Int) = 0 ∧ elAt S.F j = false
  far : ∀ x : Int, (x < 0 ∨ (us.length : Int) ≤ x) → S.W.count x = 0
theorem elAtB_set (F : List Bool) (i j : Nat) (b : Bool) (hi : i < F.length) : elAt (F.set i b) j = if j = i then b else elAt F j := elAt_set F i j b hi
theorem ShInv.stp {is : List Int} {us : List Us} {r i : Nat} {S : ShSt} (h : ShInv us r i S) (hi : i < us.length) (hF : S.F.length = us.length) : ShInv us r (i + 1) (stp is us r i S) := by
  unfold Go.Proofs.Ytfahhjgpgccdhac.stp
  have seen : ∀ j, j ≠ i → (seenB us r (i + 1) j ↔ seenB us r i j) := fun j hj => by unfold seenB; constructor <;> intro h <;> omega
  by_cases hr : (elAt us i).a2 = (r : Int)
  · rw [if_pos hr]
    have s1 : seenB us r (i + 1) i := by unfold seenB; omega
    have s0 : ¬ seenB us r i i := by unfold seenB; omega
    obtain ⟨c0, f0⟩ := h.no i hi s0
    split
    · refine ⟨fun j hj hs => ?_, fun j hj hs => ?_, h.far⟩
      · simp only
        rw [elAtB_set _ _ _ _ (by omega)]
        by_cases e : j = i
        · subst e; simp [c0]
        · rw [if_neg e]; exact h.yes j hj ((seen j e).1 hs)
      · simp only
        have e : j ≠ i := fun e => hs (e ▸ s1)
        rw [elAtB_set _ _ _ _ (by omega), if_neg e]
        exact h.no j hj (fun q => hs ((seen j e).2 q))
    · refine ⟨fun j hj hs => ?_, fun j hj hs => ?_, fun x hx => ?_⟩
      · simp only [List.count_append]
        by_cases e : j = i
        · subst e; simp [c0, f0]
        · have e2 : ¬ ((i : Int) = (j : Int)) := by omega
          rw [List.count_singleton]
          simp only [beq_iff_eq, e2, if_false, Nat.add_zero]
          exact h.yes j hj ((seen j e).1 hs)
      · simp only [List.count_append]
        have e : j ≠ i := fun e => hs (e ▸ s1)
        have e2 : ¬ ((i : Int) = (j : Int)) := by omega
        rw [List.count_singleton]
        simp only [beq_iff_eq, e2, if_false, Nat.add_zero]
        exact h.no j hj (fun q => hs ((seen j e).2 q))
      · simp only [List.count_append]
        have e2 : ¬ ((i : Int) = x) := by omega
        rw [List.count_singleton]
        simp only [beq_iff_eq, e2, if_false, Nat.add_zero]
        exact h.far x hx
  · rw [if_neg hr]
    have seen2 : ∀ j, (seenB us r (i + 1) j ↔ seenB us r i j) := fun j => by
      by_cases e : j = i
      · subst e; unfold seenB; constructor <;> intro h <;> omega
      · exact seen j e
    exact ⟨fun j hj hs => h.yes j hj ((seen2 j).1 hs), fun j hj hs => h.no j hj (fun q => hs ((seen2 j).2 q)), h.far⟩
theorem stp_F {is : List Int} {us : List Us} {r i : Nat} {S : ShSt} : (stp is us r i S).F.length = S.F.length := by
  unfold stp; split
  · split <;> simp
  · rfl
theorem inn_F {is : List Int} {us : List Us} {r : Nat} {S : ShSt} : ∀ i, (inn is us r S i).F.length = S.F.length
  | 0 => rfl
  | i + 1 => by rw [inn, stp_F, inn_F i]
theorem ShInv.inn {is : List Int} {us : List Us} {r : Nat} {S : ShSt} (h : ShInv us r 0 S) (hF : S.F.length = us.length) : ∀ i, i ≤ us.length → ShInv us r i (inn is us r S i)
  | 0, _ => h
  | i + 1, hle => ShInv.stp (ShInv.inn h hF i (by omega)) (by omega) (by rw [inn_F]; exact hF)
theorem ShInv.next {us : List Us} {r : Nat} {S : ShSt} (h : ShInv us r us.length S) : ShInv us (r + 1) 0 S := by
  have seen : ∀ j, j < us.length → (seenB us (r + 1) 0 j ↔ seenB us r us.length j) := fun j hj => by unfold seenB; constructor <;> intro h <;> omega
  exact ⟨fun j hj hs => h.yes j hj ((seen j hj).1 hs), fun j hj hs => h.no j hj (fun q => hs ((seen j hj).2 q)), h.far⟩
theorem outr_F {is : List Int} {us : List Us} {S : ShSt} : ∀ r, (outr is us S r).F.length = S.F.length
  | 0 => rfl
  | r + 1 => by rw [outr, inn_F, outr_F r]
theorem ShInv.outr {is : List Int} {us : List Us} {S : ShSt} (h : ShInv us 0 0 S) (hF : S.F.length = us.length) : ∀ r, ShInv us r 0 (outr is us S r)
  | 0 => h
  | r + 1 => (ShInv.inn (ShInv.outr h hF r) (by rw [outr_F]; exact hF) us.length (Nat.le_refl _)).next
theorem elAt_repF (n i : Nat) : elAt (List.replicate n false) i = false := by
  unfold elAt; rw [List.getElem?_replicate]; split <;> rfl
theorem shInv_start (us : List Us) (L : List Int) (hu : ∀ i, i < us.length → 0 ≤ (elAt us i).a2) : ShInv us 0 0 ⟨L, List.replicate us.length false, []⟩ :=
  ⟨fun j hj hs => by have := hu j hj; unfold seenB at hs; omega, fun j _ _ => ⟨rfl, elAt_repF _ _⟩, fun _ _ => rfl⟩
theorem unK_count (F : List Bool) : ∀ (k : Nat) (x : Int), (unK F k).count x = if 0 ≤ x ∧ x < (k : Int) ∧ elAt F x.toNat = false then 1 else 0
  | 0, x => by rw [if_neg (by omega)]; rfl
  | k + 1, x => by
    have ih := unK_count F k x
    unfold unK
    by_cases e : x = (k : Int)
    · subst e
      split
      · rename_i hf
        rw [ih, if_neg (by omega), if_neg (by rw [Int.toNat_natCast, hf]; simp)]
      · rename_i hf
        rw [List.count_append, ih, if_neg (by omega), if_pos ⟨by omega, by omega, by rw [Int.toNat_natCast]; simpa using hf⟩]
        simp
    · have hs : (0 ≤ x ∧ x < ((k + 1 : Nat) : Int) ∧ elAt F x.toNat = false) ↔ (0 ≤ x ∧ x < (k : Int) ∧ elAt F x.toNat = false) := by constructor <;> (intro ⟨a, b, c⟩; exact ⟨a, by omega, c⟩)
      simp only [hs]
      split
      · exact ih
      · rw [List.count_append, ih, List.count_singleton]
        have e2 : ¬ ((k : Int) = x) := by omega
        simp [e2]
theorem unK_lt (F : List Bool) : ∀ (k : Nat) (x : Int), x ∈ unK F k → x < (k : Int)
  | k + 1, x, h => by
    unfold unK at h
    split at h
    · have := unK_lt F k x h; omega
    · rcases List.mem_append.1 h with h | h
      · have := unK_lt F k x h; omega
      · simp at h; omega
theorem unK_sorted (F : List Bool) : ∀ k, (unK F k).Pairwise (fun x y => x ≤ y)
  | 0 => List.Pairwise.nil
  | k + 1 => by
    unfold unK
    split
    · exact unK_sorted F k
    · refine List.pairwise_append.2 ⟨unK_sorted F k, by simp, fun x hx y hy => ?_⟩
      have := unK_lt F k x hx
      simp at hy; omega
theorem unK_perm {us : List Us} {S : ShSt} (h : ShInv us 10 0 S) (hu : ∀ i, i < us.length → (elAt us i).a2 ≤ 9) : (unK S.F us.length).Perm S.W := by
  rw [List.perm_iff_count]
  intro x
  rw [unK_count]
  by_cases hx : 0 ≤ x ∧ x < (us.length : Int)
  · have hj : x.toNat < us.length := by omega
    have := h.yes x.toNat hj (by have := hu _ hj; unfold seenB; omega)
    rw [Int.toNat_of_nonneg hx.1] at this
    rw [this]
    by_cases hf : elAt S.F x.toNat = true
    · rw [if_neg (by rw [hf]; simp), if_pos hf]
    · rw [if_pos ⟨hx.1, hx.2, by simpa using hf⟩, if_neg hf]
  · rw [if_neg (by omega), h.far x (by omega)]
theorem unK_len (F : List Bool) : ∀ k, (unK F k).length ≤ k
  | 0 => Nat.le_refl _
  | k + 1 => by
    have := unK_len F k
    unfold unK
    split
    · omega
    · simp; omega

end Go.Proofs.Ytfahhjgpgccdhac
