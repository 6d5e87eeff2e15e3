/-
  slices.DeleteFunc of Take18, whether a load of the part is aboard or not: what stays is what tkO tells, in the same memory.
-/
import Derived.Test.YtemodlgmjgdjpaaGreatDoorTkDel
import Derived.Test.YtemodlgmjgdjpaaGreatDoorTsPure
import Derived.Test.YtemodlgmjgdjpaaGreatDoorMWrOrd
namespace Go.Proofs.YtemodlgmjgdjpaaGreatDoor
open Go Go.RowKit

theorem delF_any (base g n cp bx : Nat) (us : List Lx) (s : Int) (p : ByteArray) (r : List Value) (w : World) (hok : LzOk (us.map lxW)) (hl : OwnLd w base (.slice (some ⟨g, 0, none⟩) n cp) us) (hn : us.length = n) (hs : n ≤ 1000) (hab : abB s (us.map lxW) = true) (hb : Blk w bx (.string p :: r)) (hbg : bx ≠ g) :
    Calls Tryz.prog 41 #[.slice (some ⟨g, 0, none⟩) n cp, .func (.func 42) #[] #[.pointer (some ⟨bx, 0, none⟩)]] w fun e w' => ∃ m us', e = .returned (.slice (some ⟨g, 0, none⟩) m cp) ∧ OwnLd w' base (.slice (some ⟨g, 0, none⟩) m cp) us' ∧ us'.map lxW = tkO (us.map lxW) p ∧ us'.length = m ∧ m ≤ n ∧ (∀ i, i < m → ∃ j, j < n ∧ elAt us' i = elAt us j) ∧ w.grownBy w' (some g) := by
  have hT : OwnLT w base (.slice (some ⟨g, 0, none⟩) n cp) (us.map lxW) := ⟨⟨us, rfl, hl⟩, hok⟩
  have hix := ab_sa hab p
  have hlen : (us.map lxW).length = n := by simpa using hn
  rcases sa_cases (us.map lxW) p with h0 | ⟨k, hk, h0⟩
  · refine (delF_miss n cp bx (some ⟨g, 0, none⟩) (us.map lxW) p r w hT.row (hix.trans h0) hb).mono ?_
    rintro e w' ⟨rfl, b⟩
    refine ⟨n, us, rfl, hl.below b, ?_, hn, Nat.le_refl _, fun i hi => ⟨i, hi, rfl⟩, grownTk b _⟩
    rw [tkO, if_neg (by omega)]
  · rw [hlen] at hk
    have hd := dfB_pair.1 (ab_df hab)
    have hix2 : ixF (qPt p) (us.map lxW) = (k : Int) := hix.trans h0
    have hkp : qPt p (elAt (us.map lxW) k) = true := by
      rcases ixF_cases (qPt p) (us.map lxW) with ⟨a, _⟩ | ⟨k2, _, a, b, _⟩
      · rw [hix2] at a; omega
      · have : k2 = k := by rw [hix2] at a; omega
        rw [← this]; exact b
    refine (delF_hit base g n (n - 1) cp k bx us p r w hT hl hn (by omega) hs hk hix2 (fun j hj hjn => ?_) hb hbg).mono ?_
    · have h1 := hd k j hj (by omega)
      refine decide_eq_false (fun e => h1 ?_)
      have h2 : (elAt (us.map lxW) k).p = p := of_decide_eq_true hkp
      have h3 : (lxW (elAt us j)).p = p := e
      have h4 : elAt (us.map lxW) j = lxW (elAt us j) := by rw [elAt_lx rfl (by omega)]
      rw [h2, h4, h3]
    · rintro e w' ⟨rfl, o, gr⟩
      refine ⟨n - 1, dlL us k, rfl, o, ?_, by rw [dlL_len (by omega)]; omega, by omega, fun i hi => ⟨if i < k then i else i + 1, by split <;> omega, dlL_at (by omega) (by omega)⟩, gr⟩
      have e1 := dlL_map (us := us) rfl k
      rw [e1, tkO, if_pos (by omega), h0]
      rfl

end Go.Proofs.YtemodlgmjgdjpaaGreatDoor
