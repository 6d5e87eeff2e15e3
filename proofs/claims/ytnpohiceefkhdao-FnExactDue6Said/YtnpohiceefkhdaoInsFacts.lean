/-
  Names put in one by one, each ahead of the first that is not less: they stay sorted, and are those that are due. No program here.
-/
import Derived.Test.YtnpohiceefkhdaoDueFacts
namespace Go.Proofs.Ytnpohiceefkhdao
open Go Go.Maps

theorem bytes_less (x : List UInt8) : ∀ y : List UInt8, Op.bytesLess x y = decide (x < y) := by
  induction x with
  | nil => intro y; cases y <;> simp [Op.bytesLess]
  | cons a x ih =>
    intro y
    cases y with
    | nil => simp [Op.bytesLess]
    | cons b y =>
      have h := ih y
      simp only [Op.bytesLess, h, List.cons_lt_cons_iff]
      rcases Nat.lt_trichotomy a.toNat b.toNat with k | k | k
      · have h1 : a < b := UInt8.lt_iff_toNat_lt.2 k
        simp [h1]
      · obtain rfl := UInt8.toNat_inj.1 k
        simp
      · have h1 : ¬ a < b := fun e => by have := UInt8.lt_iff_toNat_lt.1 e; omega
        have h2 : ¬ a = b := fun e => by subst e; omega
        simp [h1, h2]
/-- The bytes of the texts of a list. -/
def byL (D : List ByteArray) : List (List UInt8) := D.map fun s => s.data.toList
/-- A text put in at a place. -/
def insAt (D : List ByteArray) (x : ByteArray) (i : Nat) : List ByteArray := D.take i ++ x :: D.drop i
/-- Go's '<' on texts. -/
def ltB (x y : ByteArray) : Bool := Op.bytesLess x.toList y.toList
theorem ltB_iff {x y : ByteArray} : ltB x y = true ↔ x.data.toList < y.data.toList := by
  unfold ltB
  rw [bytes_less, ByteArray.toList_eq, ByteArray.toList_eq, decide_eq_true_eq]
def Risen (D : List ByteArray) : Prop := (byL D).Pairwise (fun x y => x ≤ y)
theorem risen_ins {D : List ByteArray} {x : ByteArray} {i : Nat} (h : Risen D) (hi : i ≤ D.length) (h1 : ∀ j, j < i → ltB (elAt D j) x = true) (h2 : i < D.length → ltB (elAt D i) x = false) : Risen (insAt D x i) := by
  unfold Risen byL insAt at *
  rw [List.map_append, List.map_cons, List.pairwise_append, List.pairwise_cons]
  have hsplit : (D.take i).map (fun s => s.data.toList) ++ (D.drop i).map (fun s => s.data.toList) = D.map (fun s => s.data.toList) := by
    rw [← List.map_append, List.take_append_drop]
  rw [← hsplit, List.pairwise_append] at h
  have ha : ∀ a ∈ (D.take i).map (fun s => s.data.toList), a ≤ x.data.toList := by
    intro a ha
    obtain ⟨s, hs, rfl⟩ := List.mem_map.1 ha
    obtain ⟨j, hj, rfl⟩ := List.getElem_of_mem hs
    rw [List.length_take] at hj
    have := h1 j (by omega)
    have hjd : j < D.length := by omega
    rw [ltB_iff] at this
    simp only [elAt, List.getElem?_eq_getElem hjd, Option.getD_some] at this
    rw [List.getElem_take]
    exact List.le_of_lt this
  have hb : ∀ b ∈ (D.drop i).map (fun s => s.data.toList), x.data.toList ≤ b := by
    intro b hb
    by_cases hi2 : i < D.length
    · have h3 := h2 hi2
      have h4 : ¬ (elAt D i).data.toList < x.data.toList := fun k => by rw [← ltB_iff, h3] at k; cases k
      have h5 : x.data.toList ≤ (elAt D i).data.toList := List.not_lt.1 h4
      have h6 : elAt D i = D[i] := by simp [elAt, hi2]
      rw [h6] at h5
      have hd : D.drop i = D[i] :: D.drop (i + 1) := List.drop_eq_getElem_cons hi2
      rw [hd, List.map_cons] at hb
      have hp := h.2.1
      rw [hd, List.map_cons, List.pairwise_cons] at hp
      rcases List.mem_cons.1 hb with rfl | hb
      · exact h5
      · exact List.le_trans h5 (hp.1 b hb)
    · rw [List.drop_eq_nil_of_le (by omega)] at hb
      cases hb
  refine ⟨h.1, ⟨hb, h.2.1⟩, fun a ha' b hb' => ?_⟩
  rcases List.mem_cons.1 hb' with rfl | hb'
  · exact ha a ha'
  · exact h.2.2 a ha' b hb'
theorem perm_ins {D : List ByteArray} {x : ByteArray} {i : Nat} : (byL (insAt D x i)).Perm (byL D ++ [x.data.toList]) := by
  unfold byL insAt
  rw [List.map_append, List.map_cons]
  refine List.perm_middle.trans ?_
  rw [← List.map_append, List.take_append_drop]
  exact (List.perm_append_singleton _ _).symm
theorem len_ins {D : List ByteArray} {x : ByteArray} {i : Nat} (hi : i ≤ D.length) : (insAt D x i).length = D.length + 1 := by
  unfold insAt
  simp
  omega
theorem dueL_take {ls ss : List Pt} {i : Nat} (hi : i < ss.length) : dueL ls (ss.take (i + 1)) = dueL ls (ss.take i) ++ (if dueB ls (elAt ss i) = true then [(elAt ss i).n.data.toList] else []) := by
  unfold dueL
  have he : elAt ss i = ss[i] := by simp [elAt, hi]
  rw [List.take_succ_eq_append_getElem hi, List.filter_append, List.map_append, he]
  congr 1
  by_cases h : dueB ls ss[i] = true
  · simp [h]
  · simp [h]
/-- What Due6 tells, as texts. -/
def dueS (ls ss : List Pt) : List ByteArray := (dueR ls ss).map fun l => ⟨l.toArray⟩
theorem dueS_len (ls ss : List Pt) : (dueS ls ss).length = (dueR ls ss).length := by simp [dueS]
theorem dueS_enc (ls ss : List Pt) : (dueS ls ss).map Value.string = (dueR ls ss).map encStr := by
  unfold dueS
  rw [List.map_map]
  rfl
theorem dueS_no {ls ss : List Pt} (h : dueOk ls ss = false) : dueS ls ss = [] := by simp [dueS, dueR_no h]
theorem dueS_is {ls ss : List Pt} {D : List ByteArray} (h : dueOk ls ss = true) (hr : Risen D) (hp : (byL D).Perm (dueL ls (ss.take ss.length))) : dueS ls ss = D := by
  rw [List.take_length] at hp
  have e : dueR ls ss = byL D := by
    rw [dueR_yes h, ← mergeSort_of_perm hp]
    exact List.mergeSort_of_pairwise (hr.imp fun {a b} hab => by simpa [leB] using hab)
  unfold dueS
  rw [e]
  unfold byL
  rw [List.map_map]
  exact List.map_id' D

end Go.Proofs.Ytnpohiceefkhdao
