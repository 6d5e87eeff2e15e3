/-
  Rows of numbers: one that was written out and cut, a list of rows that was made, a row put into it. No condition.
-/
import Derived.Test.YtfnnfldfnjnlfagRrGr
import Derived.Test.YtfnnfldfnjnlfagDraw
namespace Go.Proofs.Ytfnnfldfnjnlfag
open Go Go.RowKit

/-- A row that was written out, of which only the first k count. -/
theorem ownI_lit {w : World} {base k : Nat} {zs : List Int} (hb : base ≤ w.heap.size) (hk : k ≤ zs.length) (hn : zs.length ≤ 1000) (hf : ∀ x ∈ zs, -9223372036854775808 ≤ x ∧ x ≤ 9223372036854775807) :
    OwnI (w.alloc (Obj.cells (zs.map (Value.int .i64)).toArray 3)) base (.slice (some ⟨w.heap.size, 0, none⟩) k zs.length) (zs.take k) := by
  have hl : (zs.take k).length = k := by simp; omega
  refine ⟨⟨(zs.map (Value.int .i64)).take k, ⟨by simp, .inr ⟨w.heap.size, zs.length, (zs.map (Value.int .i64)).toArray, by rw [hl], hb, ?_, by omega, by unfold maxLen; omega, by simp, by simp⟩⟩, fun j hj => ?_⟩, fun i => ?_⟩
  · show (w.heap.push _)[w.heap.size]? = _
    simp
  · rw [hl] at hj
    rw [List.getElem?_take_of_lt hj]
    simp [nth, hj, show j < zs.length by omega]
  · unfold nth
    by_cases h : i < (zs.take k).length
    · rw [List.getElem?_eq_getElem h]
      exact hf _ (List.mem_of_mem_take (List.getElem_mem h))
    · rw [List.getElem?_eq_none (by omega)]
      simp
/-- A list of rows that was made: every row is nil. -/
theorem ownRr_made {w : World} {base n : Nat} (g : Nat)
    (h : OwnE 1 rxC w base 68 (.slice (some ⟨g, 0, none⟩) n n) (List.replicate n (⟨none, 0, 0, []⟩ : Rx))) : OwnRr w base (.slice (some ⟨g, 0, none⟩) n n) (List.replicate n (⟨none, 0, 0, []⟩ : Rx)) := by
  have e : ∀ i, i < (List.replicate n (⟨none, 0, 0, []⟩ : Rx)).length → elAt (List.replicate n (⟨none, 0, 0, []⟩ : Rx)) i = ⟨none, 0, 0, []⟩ := fun i hi => by
    have hi : i < n := by simpa using hi
    simp [elAt, hi]
  refine ⟨h, fun i hi => ?_, fun i hi q hq => ?_, fun i j hij hj q hq => ?_⟩
  · rw [e i hi]; exact ownI_nil w base
  · rw [e i hi] at hq; cases hq
  · rw [e i (by omega)] at hq; cases hq
/-- A row put into a list of rows. -/
theorem OwnRr.put {w : World} {base g n c i : Nat} {us : List Rx} {x : Rx} (h : OwnRr w base (.slice (some ⟨g, 0, none⟩) n c) us) (hn : us.length = n) (hi : i < n) (hd : OwnI w base (rxV x) x.zs) (hv : (rxV x).ownBlock ≠ some g)
    (hp : ∀ j, j < n → ∀ q, (rxV (elAt us j)).ownBlock = some q → (rxV x).ownBlock ≠ some q) : OwnRr (w.setCell ⟨g, i, none⟩ (rxV x)) base (.slice (some ⟨g, 0, none⟩) n c) (us.set i x) := by
  have el : ∀ j, elAt (us.set i x) j = if j = i then x else elAt us j := fun j => elAt_set us i j x (by omega)
  have ap : ∀ j, j < n → (rxV (elAt us j)).ownBlock ≠ some g := fun j hj e => h.apt j (by omega) g e rfl
  refine ⟨h.out.set1 hn i hi (rxV x) x rfl, fun j hj => ?_, fun j hj q hq => ?_, fun j k hjk hk q hq => ?_⟩
  · have hj : j < n := by simpa [hn] using hj
    rw [el]
    by_cases e : j = i
    · rw [if_pos e]; exact hd.set_other _ hv
    · rw [if_neg e]; exact (h.dat j (by omega)).set_other _ (ap j hj)
  · have hj : j < n := by simpa [hn] using hj
    rw [el] at hq
    intro e
    have e : g = q := Option.some.inj e
    subst e
    by_cases c : j = i
    · rw [if_pos c] at hq; exact hv hq
    · rw [if_neg c] at hq; exact ap j hj hq
  · have hk : k < n := by simpa [hn] using hk
    rw [el] at hq ⊢
    by_cases c : j = i
    · rw [if_pos c] at hq
      rw [if_neg (by omega)]
      exact fun e => hp k hk q e hq
    · rw [if_neg c] at hq
      by_cases d : k = i
      · rw [if_pos d]; exact hp j (by omega) q hq
      · rw [if_neg d]; exact h.par j k hjk (by omega) q hq

/-- A number written into a row of a list of rows. -/
theorem OwnRr.turn {w : World} {base b m d i q : Nat} {v : Value} {us : List Rx} {zs : List Int} {x : Int} (h : OwnRr w base v us) (hi : i < us.length) (he : elAt us i = ⟨some ⟨b, 0, none⟩, m, d, zs⟩) (hm : zs.length = m) (hq : q < m) (hx : -9223372036854775808 ≤ x ∧ x ≤ 9223372036854775807) :
    OwnRr (w.setCell ⟨b, q, none⟩ (.int .i64 x)) base v (us.set i ⟨some ⟨b, 0, none⟩, m, d, zs.set q x⟩) := by
  have el : ∀ j, elAt (us.set i ⟨some ⟨b, 0, none⟩, m, d, zs.set q x⟩) j = if j = i then ⟨some ⟨b, 0, none⟩, m, d, zs.set q x⟩ else elAt us j := fun j => elAt_set us i j _ hi
  have rv : ∀ j, rxV (elAt (us.set i ⟨some ⟨b, 0, none⟩, m, d, zs.set q x⟩) j) = rxV (elAt us j) := fun j => by
    rw [el]
    by_cases e : j = i
    · rw [if_pos e, e, he]; rfl
    · rw [if_neg e]
  have hb : (rxV (elAt us i)).ownBlock = some b := by rw [he]; rfl
  have ho : v.ownBlock ≠ some b := h.apt i hi b hb
  refine ⟨?_, fun j hj => ?_, fun j hj g hg => ?_, fun j k hjk hk g hg => ?_⟩
  · have o := h.out.set_other (S := b) (o := q) (.int .i64 x) ho
    obtain ⟨xs, h1, h2⟩ := o.own
    refine ⟨⟨xs, by simpa using h1, fun j hj p hp => ?_⟩⟩
    rw [show rxC (elAt (us.set i ⟨some ⟨b, 0, none⟩, m, d, zs.set q x⟩) j) p = rxC (elAt us j) p from rv j]
    exact h2 j (by simpa using hj) p hp
  · have hj2 : j < us.length := by simpa using hj
    clear hj
    by_cases e : j = i
    · subst e
      have := h.dat j hj2
      rw [he] at this
      rw [el, if_pos rfl]
      subst hm
      have t := OwnI.set (show OwnI w base (.slice (some ⟨b, 0, none⟩) zs.length d) zs from this) q hq x hx
      exact t
    · rw [el, if_neg e]
      refine (h.dat j hj2).set_other _ (fun c => ?_)
      rcases Nat.lt_or_gt_of_ne e with l | l
      · exact h.par j i l hi b c hb
      · exact h.par i j l hj2 b hb c
  · rw [rv] at hg
    exact h.apt j (by simpa using hj) g hg
  · rw [rv] at hg ⊢
    exact h.par j k hjk (by simpa using hk) g hg

end Go.Proofs.Ytfnnfldfnjnlfag
