/-
  What is known of a net that is so, and of its islands, for shedding. At a net that is so.
-/
import Derived.Test.YtfahhjgpgccdhacShIn
import Derived.Test.YtfahhjgpgccdhacIslePure
import Derived.Test.YtfahhjgpgccdhacIsleIn
import Derived.Test.YtfahhjgpgccdhacSortI
import Derived.Laws.MakeOwn
import Derived.Laws.OwnMore
namespace Go.Proofs.Ytfahhjgpgccdhac
open Go.RowKit

theorem net_facts {N : Nat} {ss : List Sr} {ts : List Ti} {us : List Us} (h : netB (N : Int) ss ts us = true) :
    (1 ≤ N ∧ N ≤ 8) ∧ (ss.length ≤ 6 ∧ ts.length ≤ 16 ∧ us.length ≤ 40) ∧
    (∀ k, k < ss.length → (0 ≤ (elAt ss k).a0 ∧ (elAt ss k).a0 < N) ∧ (0 ≤ (elAt ss k).a1 ∧ (elAt ss k).a1 ≤ 100000)) ∧
    (∀ k, k < ts.length → (0 ≤ (elAt ts k).a0 ∧ (elAt ts k).a0 < N) ∧ (0 ≤ (elAt ts k).a1 ∧ (elAt ts k).a1 < N)) ∧
    (∀ k, k < us.length → (0 ≤ (elAt us k).a0 ∧ (elAt us k).a0 < N) ∧ (1 ≤ (elAt us k).a1 ∧ (elAt us k).a1 ≤ 100000) ∧ (0 ≤ (elAt us k).a2 ∧ (elAt us k).a2 ≤ 9)) := by
  obtain ⟨h0, h1, h2, h3⟩ := netB_parts h
  have f0 := in_facts h0
  simp only [ssB, tsB, unB, Bool.and_eq_true, decide_eq_true_eq] at h1 h2 h3
  refine ⟨by omega, ⟨h1.1, h2.1, h3.1⟩, fun k hk => ?_, fun k hk => ?_, fun k hk => ?_⟩
  · have e := everyB_at h1.2 hk
    simp only [srB, Bool.and_eq_true] at e
    have := in_facts e.1; have := in_facts e.2
    omega
  · have e := everyB_at h2.2 hk
    simp only [tiB, Bool.and_eq_true] at e
    have := in_facts e.1.1; have := in_facts e.1.2
    omega
  · have e := everyB_at h3.2 hk
    simp only [usB, Bool.and_eq_true] at e
    have := in_facts e.1.1; have := in_facts e.1.2; have := in_facts e.2
    omega
theorem ownI_made {w1 : World} {base n : Nat} {v : Value} (h : w1.ownsRow base 3 1 v n (madeCells #[.int .i64 0] (n * 1)).toList) : OwnI w1 base v (List.replicate n 0) := by
  refine ⟨⟨_, by rw [List.length_replicate]; exact h, fun j hj => ?_⟩, fun i => by rw [nth_rep]; omega⟩
  rw [nth_rep, toList_madeCells_one]
  have hj' : j < n := by simpa using hj
  simp [hj']
theorem ownB_made {w1 : World} {base n : Nat} {v : Value} (h : w1.ownsRow base 4 1 v n (madeCells #[.bool false] (n * 1)).toList) : OwnE 1 boC w1 base 4 v (List.replicate n false) := by
  refine ⟨⟨_, by rw [List.length_replicate]; exact h, fun j hj q hq => ?_⟩⟩
  obtain rfl : q = 0 := by omega
  have hj' : j < n := by simpa using hj
  rw [toList_madeCells_one, elAt_repF]
  simp [hj', boC]
theorem isAt_lt {N : Nat} {ts : List Ti} {is : List Int} (h : IsIsle N ts is) (hN : 1 ≤ N) (x : Int) : isAt is x < N := by
  unfold isAt
  by_cases hx : x.toNat < N
  · have := h.low x.toNat hx
    omega
  · have : nth is x.toNat = 0 := by
      unfold nth; rw [List.getElem?_eq_none (by rw [h.len]; omega)]; rfl
    rw [this]; omega
noncomputable def shS (N : Nat) (ss : List Sr) (ts : List Ti) (us : List Us) : ShSt := ⟨srcL (isleR N ts) ss N ss.length, List.replicate us.length false, []⟩
/-- Who is shed, where the net is so. -/
noncomputable def shR (N : Nat) (ss : List Sr) (ts : List Ti) (us : List Us) : List Int := unK (outr (isleR N ts) us (shS N ss ts us) 10).F us.length
/-- What is told. -/
noncomputable def shL (n : Int) (ss : List Sr) (ts : List Ti) (us : List Us) : List Int := if netB n ss ts us = true then shR n.toNat ss ts us else []
theorem shL_small {n : Int} {ss : List Sr} {ts : List Ti} {us : List Us} (_ : netB n ss ts us = true → True) : (shL n ss ts us).length ≤ 1048576 := by
  unfold shL
  split
  · rename_i h
    have h1 := (netB_parts h).2.2.2
    simp only [unB, Bool.and_eq_true, decide_eq_true_eq] at h1
    have := unK_len (outr (isleR n.toNat ts) us (shS n.toNat ss ts us) 10).F us.length
    unfold shR; omega
  · simp
theorem unk_done {is L : List Int} {us : List Us} (hu : ∀ i, i < us.length → 0 ≤ (elAt us i).a2 ∧ (elAt us i).a2 ≤ 9) :
    unK (outr is us ⟨L, List.replicate us.length false, []⟩ 10).F us.length = srt (outr is us ⟨L, List.replicate us.length false, []⟩ 10).W :=
  srt_same (unK_perm (ShInv.outr (shInv_start us L (fun i hi => (hu i hi).1)) (by simp) 10) (fun i hi => (hu i hi).2)) (unK_sorted _ _)

end Go.Proofs.Ytfahhjgpgccdhac
