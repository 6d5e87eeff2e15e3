/-
  A region that draws its order, by an invariant: what is true at the start, is kept by each operation that may come next, and is enough when all are done. One goal an operation, whatever the number of orders. No program here.
-/
import Derived.Orders
import Derived.RegionTactic
namespace Go.Proofs.YtemodlgmjgdjpaaGreatDoor
open Go

theorem countP_less {p q : Nat → Bool} : ∀ {l : List Nat}, (∀ x, q x = true → p x = true) → (∃ x, x ∈ l ∧ p x = true ∧ q x = false) → l.countP q < l.countP p
  | [], _, ⟨_, h, _⟩ => by cases h
  | y :: l, hpq, ⟨x, hx, h1, h2⟩ => by
    rw [List.countP_cons, List.countP_cons]
    have hle : l.countP q ≤ l.countP p := List.countP_mono_left (fun z _ => hpq z)
    rcases List.mem_cons.1 hx with rfl | hx
    · rw [h1, h2]; simp; omega
    · have ih := countP_less (l := l) hpq ⟨x, hx, h1, h2⟩
      cases hq : q y with
      | false => cases p y <;> simp <;> omega
      | true => rw [hpq y hq]; simp; omega
/-- How many operations are still to be done. -/
def unl (ops : Array Oper) (listed : Array Bool) : Nat := (List.range ops.size).countP fun i => !listed.getD i true
section
variable {P : Program} {ops : Array Oper} {Q : Exit → Act → World → Prop} {md : Region.Mode}
theorem unl_step {listed : Array Bool} {i : Nat} (hi : i < ops.size) (hl : listed.getD i true = false) : unl ops (listed.setIfInBounds i true) < unl ops listed := by
  have hs : i < listed.size := by
    rcases Nat.lt_or_ge i listed.size with h | h
    · exact h
    · simp [Array.getD, Nat.not_lt.2 h] at hl
  refine countP_less (fun x hx => ?_) ⟨i, List.mem_range.2 hi, by rw [hl]; rfl, ?_⟩
  · by_cases e : i = x
    · subst e; rw [hl]; rfl
    · simpa [Array.getD_eq_getD_getElem?, Array.getElem?_setIfInBounds_ne e] using hx
  · simp [Array.getD_eq_getD_getElem?, Array.getElem?_setIfInBounds_self_of_lt hs]
theorem wpAny_inv (I : Array Bool → Act → World → Prop) (hdone : ∀ listed a w, I listed a w → Region.ready md ops listed = [] → Q .normal a w)
    (hstep : ∀ listed a w i, I listed a w → i ∈ Region.ready md ops listed → wpOp P ops Q i (I (listed.setIfInBounds i true)) a w) :
    ∀ (fuel : Nat) (listed : Array Bool) (a : Act) (w : World), unl ops listed ≤ fuel → I listed a w → wpAny P md ops Q fuel listed a w
  | 0, listed, a, w, hu, h => by
    have hr : Region.ready md ops listed = [] := by
      cases hr : Region.ready md ops listed with
      | nil => rfl
      | cons i l =>
        have hm : i ∈ Region.ready md ops listed := by rw [hr]; exact List.mem_cons_self ..
        obtain ⟨h1, o, ho, _⟩ := mem_ready.1 hm
        have := unl_step (ops := ops) (Array.getElem?_eq_some_iff.1 ho).1 h1
        omega
    exact ⟨hr, hdone _ _ _ h hr⟩
  | fuel + 1, listed, a, w, hu, h => by
    refine ⟨fun hr => hdone _ _ _ h hr, fun i hi => ?_⟩
    obtain ⟨h1, o, ho, _⟩ := mem_ready.1 hi
    have hlt := unl_step (ops := ops) (Array.getElem?_eq_some_iff.1 ho).1 h1
    exact wpOp_mono (fun a' w' h' => wpAny_inv I hdone hstep fuel _ a' w' (by omega) h') (hstep _ _ _ _ h hi)
/-- One operation, as a walk of its own. -/
def stepQ (K : Act → World → Prop) : Exit → Act → World → Prop := fun e a w => e = .normal ∧ K a w
theorem wpOp_of_list {i : Nat} {o : Oper} {K : Act → World → Prop} {a : Act} {w : World} (ho : ops[i]? = some o) (h : wpList P ops (stepQ K) [o] a w) : wpOp P ops Q i K a w := by
  unfold wpOp
  simp only [ho]
  unfold wpList at h
  split
  · rename_i hw
    rw [if_pos hw] at h
    rcases h with h | ⟨_, _, _, h, _⟩
    · left
      unfold Oper.wp at *
      generalize (execOp a.eval o).run P w = r at *
      cases r with
      | ok n w' =>
        cases n <;> simp only [Oper.upon] at h ⊢ <;>
          first
            | exact h.2
            | exact Calls.mono h (fun e w'' he => by
                cases e with
                | returned v => exact he.2
                | panicked c => exact absurd he.1 (by simp)
                | outgrown => obtain ⟨_, _, h1, _⟩ := he; exact absurd h1 (by simp))
            | exact Rows.mono h (fun _ _ he => he.2)
      | halt x w' =>
        cases x <;> simp only [Oper.upon] at h ⊢ <;> first | exact absurd h.1 (by simp) | exact h
    · cases h
  · rename_i hw
    rw [if_neg hw] at h
    exact h.2
theorem wp_region_inv {id : Nat} {a : Act} {w : World} (hm : P.follows .mixedOrders = true) (I : Array Bool → Act → World → Prop) (h0 : I (Array.replicate ops.size false) a { w with drawn := w.drawn + 1 })
    (hdone : ∀ listed a w, I listed a w → Region.ready .any ops listed = [] → Q .normal a w)
    (hstep : ∀ listed a w i, I listed a w → i ∈ Region.ready .any ops listed → wpOp P ops Q i (I (listed.setIfInBounds i true)) a w) : (Code.region id ops true).wp P Q a w :=
  wp_region_any hm (wpAny_inv I hdone hstep _ _ _ _ (by
    unfold unl
    exact Nat.le_trans List.countP_le_length (by simp)) h0)
end

/-- Every operation waits only for ones ahead of it. -/
def backB (ops : Array Oper) : Bool := (List.range ops.size).all fun i => match ops[i]? with | some o => o.after.all (fun e => !Region.binds .any e || decide (e.on < i)) | none => true
theorem backB_at {ops : Array Oper} (h : backB ops = true) {i : Nat} {o : Oper} (ho : ops[i]? = some o) : ∀ e ∈ o.after, Region.binds .any e = true → e.on < i := by
  have hi : i < ops.size := (Array.getElem?_eq_some_iff.1 ho).1
  have := List.all_eq_true.1 h i (List.mem_range.2 hi)
  simp only [ho] at this
  intro e he hb
  have := Array.all_eq_true_iff_forall_mem.1 this e he
  rw [hb] at this
  simpa using this
theorem all_listed {ops : Array Oper} {listed : Array Bool} (hB : backB ops = true) (hs : listed.size = ops.size) (hr : Region.ready .any ops listed = []) : ∀ i, i < ops.size → listed.getD i false = true := by
  intro i
  induction i using Nat.strongRecOn with
  | ind i ih =>
    intro hi
    cases hl : listed.getD i false with
    | true => rfl
    | false =>
      exfalso
      have ho : ops[i]? = some ops[i] := by simp [hi]
      have hl2 : listed.getD i true = false := by
        have : i < listed.size := by omega
        simpa [Array.getD, this] using hl
      have : i ∈ Region.ready .any ops listed := mem_ready.2 ⟨hl2, ops[i], ho, fun e he hb => ih e.on (backB_at hB ho e he hb) (by have := backB_at hB ho e he hb; omega)⟩
      rw [hr] at this
      cases this
/-- The same by flags: which operations are done. -/
theorem wp_region_flags {P : Program} {ops : Array Oper} {Q : Exit → Act → World → Prop} {id : Nat} {a : Act} {w : World} (hm : P.follows .mixedOrders = true) (hB : backB ops = true) (J : (Nat → Bool) → Act → World → Prop) (h0 : J (fun _ => false) a { w with drawn := w.drawn + 1 })
    (hdone : ∀ l a w, (∀ i, i < ops.size → l i = true) → J l a w → Q .normal a w)
    (hstep : ∀ l a w i o, ops[i]? = some o → l i = false → (∀ e ∈ o.after, Region.binds .any e = true → l e.on = true) → J l a w → wpList P ops (stepQ (J (fun j => decide (j = i) || l j))) [o] a w) : (Code.region id ops true).wp P Q a w := by
  refine wp_region_inv hm (fun listed a w => listed.size = ops.size ∧ J (fun i => listed.getD i false) a w) ⟨by simp, ?_⟩ (fun listed a w h hr => hdone _ a w (all_listed hB h.1 hr) h.2) (fun listed a w i h hi => ?_)
  · have e : (fun i => (Array.replicate ops.size false).getD i false) = fun _ => false := by
      funext i
      by_cases c : i < ops.size <;> simp [Array.getD, c]
    rw [e]; exact h0
  · obtain ⟨h1, o, ho, hd⟩ := mem_ready.1 hi
    have hlt : i < listed.size := by have := (Array.getElem?_eq_some_iff.1 ho).1; omega
    have e : (fun j => (listed.setIfInBounds i true).getD j false) = fun j => decide (j = i) || listed.getD j false := by
      funext j
      by_cases c : j = i
      · subst c; simp [Array.getD_eq_getD_getElem?, Array.getElem?_setIfInBounds_self_of_lt hlt]
      · simp [Array.getD_eq_getD_getElem?, Array.getElem?_setIfInBounds_ne (Ne.symm c), c]
    refine wpOp_mono (fun a' w' h' => ⟨by rw [Array.size_setIfInBounds]; exact h.1, ?_⟩) (wpOp_of_list ho (hstep _ a w i o ho (by simpa [Array.getD, hlt] using h1) hd h.2))
    show J (fun j => (listed.setIfInBounds i true).getD j false) a' w'
    rw [e]; exact h'
/-- The same, with the frame at the region's head handed to the invariant. -/
theorem wp_region_flagsA {P : Program} {ops : Array Oper} {Q : Exit → Act → World → Prop} {id : Nat} {a : Act} {w : World} (hm : P.follows .mixedOrders = true) (hB : backB ops = true) (J : Act → (Nat → Bool) → Act → World → Prop) (h0 : J a (fun _ => false) a { w with drawn := w.drawn + 1 })
    (hdone : ∀ l b v, (∀ i, i < ops.size → l i = true) → J a l b v → Q .normal b v)
    (hstep : ∀ l b v i o, ops[i]? = some o → l i = false → (∀ e ∈ o.after, Region.binds .any e = true → l e.on = true) → J a l b v → wpList P ops (stepQ (J a (fun j => decide (j = i) || l j))) [o] b v) : (Code.region id ops true).wp P Q a w :=
  wp_region_flags hm hB (J a) h0 hdone hstep

end Go.Proofs.YtemodlgmjgdjpaaGreatDoor
