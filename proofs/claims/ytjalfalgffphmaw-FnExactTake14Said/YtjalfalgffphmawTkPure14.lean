/-
  A name taken, in plain lists: what is latched and what is taken then; both rise, and have the names that they should. No program here.
-/
import Derived.Test.YtjalfalgffphmawSetOf
import Derived.Test.YtjalfalgffphmawBrdOps
import Derived.Test.YtjalfalgffphmawWrPn
namespace Go.Proofs.Ytjalfalgffphmaw
open Go

/-- Without a name. -/
def outS (ts : List ByteArray) (nm : ByteArray) : List ByteArray := ts.filter (fun x => !sEq x nm)
/-- A name put in its place. -/
def insS (ts : List ByteArray) (nm : ByteArray) : List ByteArray := ts.takeWhile (fun x => sLt x nm) ++ nm :: ts.dropWhile (fun x => sLt x nm)
/-- Taken then. -/
def tkN (z1 z3 : List ByteArray) (nm : ByteArray) : List ByteArray := if (hasB z1 nm && !hasB z3 nm) = true then insS z3 nm else z3
theorem outS_mem {ts : List ByteArray} {nm s : ByteArray} : s ∈ outS ts nm ↔ delS (hasB ts) nm s = true := by
  unfold outS delS
  rw [List.mem_filter, Bool.and_eq_true, hasB_mem, Bool.not_eq_true', Bool.not_eq_true', decide_eq_false_iff_not]
  constructor
  · rintro ⟨h1, h2⟩; exact ⟨(fun e => by rw [e, sEq_self] at h2; cases h2), h1⟩
  · rintro ⟨h1, h2⟩
    refine ⟨h2, ?_⟩
    cases e : sEq s nm with
    | false => rfl
    | true => exact absurd (sEq_eq.1 e) h1
theorem outS_rise {ts : List ByteArray} (nm : ByteArray) (h : riseS ts = true) : riseS (outS ts nm) = true := by
  rw [rise_pair] at h ⊢
  exact h.sublist List.filter_sublist
theorem insS_mem {ts : List ByteArray} {nm s : ByteArray} : s ∈ insS ts nm ↔ s = nm ∨ s ∈ ts := by
  unfold insS
  rw [List.mem_append, List.mem_cons]
  have e : s ∈ ts ↔ s ∈ ts.takeWhile (fun x => sLt x nm) ∨ s ∈ ts.dropWhile (fun x => sLt x nm) := by
    rw [← List.mem_append, List.takeWhile_append_dropWhile]
  rw [e]
  constructor
  · rintro (h | h | h)
    · exact .inr (.inl h)
    · exact .inl h
    · exact .inr (.inr h)
  · rintro (h | h | h)
    · exact .inr (.inl h)
    · exact .inl h
    · exact .inr (.inr h)
theorem sLt_tri {x y : ByteArray} (h1 : sLt x y = false) (h2 : ¬ x = y) : sLt y x = true := by
  have := sLt_or x y
  rw [h1] at this
  simp only [Bool.not_false, Bool.or_eq_true] at this
  rcases this with h | h
  · exact h
  · exact absurd (sEq_eq.1 h).symm h2
theorem insS_rise {ts : List ByteArray} {nm : ByteArray} (h : riseS ts = true) (hn : ¬ nm ∈ ts) : riseS (insS ts nm) = true := by
  rw [rise_pair] at h ⊢
  have hs := List.takeWhile_append_dropWhile (p := fun x => sLt x nm) (l := ts)
  unfold insS
  rw [← hs] at h
  rw [List.pairwise_append] at h ⊢
  obtain ⟨h1, h2, h3⟩ := h
  have ht : ∀ x ∈ ts.takeWhile (fun x => sLt x nm), sLt x nm = true := fun x hx => List.all_eq_true.1 (List.all_takeWhile (p := fun x => sLt x nm)) x hx
  have hd : ∀ x ∈ ts.dropWhile (fun x => sLt x nm), sLt nm x = true := by
    intro x hx
    cases e : ts.dropWhile (fun x => sLt x nm) with
    | nil => rw [e] at hx; cases hx
    | cons y l =>
      have hy : sLt y nm = false := by
        have := List.head?_dropWhile_not (p := fun x => sLt x nm) ts
        rw [e] at this
        simpa using this
      have hmy : y ∈ ts := by
        rw [← hs, List.mem_append, e]; exact .inr (List.mem_cons_self ..)
      have hyn : sLt nm y = true := sLt_tri hy (fun c => hn (c ▸ hmy))
      rw [e] at hx h2
      rcases List.mem_cons.1 hx with rfl | hx
      · exact hyn
      · exact sLt_trans hyn ((List.pairwise_cons.1 h2).1 x hx)
  refine ⟨h1, List.pairwise_cons.2 ⟨hd, h2⟩, fun a ha b hb => ?_⟩
  rcases List.mem_cons.1 hb with rfl | hb
  · exact ht a ha
  · exact h3 a ha b hb
theorem tkN_mem {z1 z3 : List ByteArray} {nm s : ByteArray} : s ∈ tkN z1 z3 nm ↔ tkS (hasB z1 nm) (hasB z3) nm s = true := by
  unfold tkN tkS
  cases e1 : hasB z1 nm with
  | false =>
    simp only [Bool.false_and, if_neg (show ¬ false = true by simp)]
    exact hasB_mem.symm
  | true =>
    rw [if_pos rfl]
    unfold addS
    rw [Bool.or_eq_true, decide_eq_true_eq, hasB_mem]
    cases e3 : hasB z3 nm with
    | false =>
      rw [if_pos (show (true && !false) = true from rfl)]; exact insS_mem
    | true =>
      rw [if_neg (by simp)]
      constructor
      · exact .inr
      · rintro (rfl | h)
        · exact hasB_mem.1 e3
        · exact h
theorem tkN_rise {z1 z3 : List ByteArray} {nm : ByteArray} (h : riseS z3 = true) : riseS (tkN z1 z3 nm) = true := by
  unfold tkN
  split
  · rename_i c
    simp only [Bool.and_eq_true, Bool.not_eq_true'] at c
    exact insS_rise h (fun k => by rw [hasB_mem.2 k] at c; cases c.2)
  · exact h
def tkB (rs : List Wr) (z1 z2 z3 : List ByteArray) (nm : ByteArray) : Bool := wrB rs && pnlB rs z1 z2 z3 && (hasB z2 nm || hasB z1 nm)
def tk2 (rs : List Wr) (z1 z2 z3 : List ByteArray) (nm : ByteArray) : List ByteArray := if tkB rs z1 z2 z3 nm = true then outS z2 nm else z2
def tk3 (rs : List Wr) (z1 z2 z3 : List ByteArray) (nm : ByteArray) : List ByteArray := if tkB rs z1 z2 z3 nm = true then tkN z1 z3 nm else z3
theorem tk_no {rs : List Wr} {z1 z2 z3 : List ByteArray} {nm : ByteArray} (h : tkB rs z1 z2 z3 nm = false) : tk2 rs z1 z2 z3 nm = z2 ∧ tk3 rs z1 z2 z3 nm = z3 := by simp [tk2, tk3, h]
theorem tk_yes {rs : List Wr} {z1 z2 z3 : List ByteArray} {nm : ByteArray} (h : tkB rs z1 z2 z3 nm = true) : tk2 rs z1 z2 z3 nm = outS z2 nm ∧ tk3 rs z1 z2 z3 nm = tkN z1 z3 nm := by simp [tk2, tk3, h]
theorem outS_len (ts : List ByteArray) (nm : ByteArray) : (outS ts nm).length ≤ ts.length := List.length_filter_le _ _
theorem outS_take {ts : List ByteArray} {nm : ByteArray} {i : Nat} (hi : i < ts.length) : outS (ts.take (i + 1)) nm = if sEq (elAt ts i) nm = true then outS (ts.take i) nm else outS (ts.take i) nm ++ [elAt ts i] := by
  have e : ts.take (i + 1) = ts.take i ++ [elAt ts i] := by
    unfold elAt
    rw [List.take_succ_eq_append_getElem hi]
    simp [hi]
  rw [e]
  unfold outS
  rw [List.filter_append]
  cases g : sEq (elAt ts i) nm with
  | true => simp [g]
  | false => simp [g]
theorem insS_len (ts : List ByteArray) (nm : ByteArray) : (insS ts nm).length = ts.length + 1 := by
  have := congrArg List.length (List.takeWhile_append_dropWhile (p := fun x => sLt x nm) (l := ts))
  rw [List.length_append] at this
  unfold insS
  simp only [List.length_append, List.length_cons]
  omega
theorem insS_at {ts : List ByteArray} {nm : ByteArray} {k : Nat} (hk : k ≤ ts.length) (h1 : ∀ j, j < k → sLt (elAt ts j) nm = true) (h2 : k = ts.length ∨ sLt (elAt ts k) nm = false) : insS ts nm = ts.take k ++ nm :: ts.drop k := by
  have hp : ∀ x ∈ ts.take k, sLt x nm = true := fun x hx => by
    obtain ⟨j, hj, rfl⟩ := List.getElem_of_mem hx
    have hj2 : j < k := by simp at hj; omega
    have := h1 j hj2
    simpa [elAt, show j < ts.length by omega] using this
  have e1 : ts.takeWhile (fun x => sLt x nm) = ts.take k := by
    conv => lhs; rw [← List.take_append_drop k ts]
    rw [List.takeWhile_append_of_pos hp]
    rcases h2 with h2 | h2
    · rw [h2]; simp
    · have hk2 : k < ts.length ∨ k = ts.length := by omega
      rcases hk2 with hk2 | hk2
      · rw [List.drop_eq_getElem_cons hk2]
        have h2' : sLt ts[k] nm = false := by simpa [elAt, hk2] using h2
        rw [List.takeWhile_cons_of_neg (by simp [h2']), List.append_nil]
      · rw [hk2]; simp
  have e2 : ts.dropWhile (fun x => sLt x nm) = ts.drop k := by
    conv => lhs; rw [← List.take_append_drop k ts]
    rw [List.dropWhile_append_of_pos hp]
    rcases h2 with h2 | h2
    · rw [h2]; simp
    · have hk2 : k < ts.length ∨ k = ts.length := by omega
      rcases hk2 with hk2 | hk2
      · rw [List.drop_eq_getElem_cons hk2]
        have h2' : sLt ts[k] nm = false := by simpa [elAt, hk2] using h2
        rw [List.dropWhile_cons_of_neg (by simp [h2'])]
      · rw [hk2]; simp
  unfold insS
  rw [e1, e2]

end Go.Proofs.Ytjalfalgffphmaw
