/-
  A record packed and read again is the record: plain numbers. No program here.
  Bytes that are read as a record are that record's bytes: plain numbers. No program here.
  A record's bytes with more bytes behind them are not read well. No program here.
-/
import Derived.Test.YtfnnfldfnjnlfagPk1
import Derived.Test.YtfnnfldfnjnlfagUnPure
import Derived.Test.YtfnnfldfnjnlfagClFact

namespace Go.Proofs.Ytfnnfldfnjnlfag

theorem elAt_mid (A C B : List Int) {i : Nat} (h : i < C.length) : elAt (A ++ C ++ B) (A.length + i) = elAt C i := by
  unfold elAt
  rw [List.append_assoc, List.getElem?_append_right (by omega), show A.length + i - A.length = i by omega, List.getElem?_append_left h]
/-- The change that stands at a place is read as itself. -/
theorem nx_at {bs A B : List Int} {c : Int} (hb : bs = A ++ chL c ++ B) (h1 : -60000 ≤ c) (h2 : c ≤ 60000) : nxC bs A.length = 0 ∧ nxV bs A.length = c ∧ nxS bs A.length = (chL c).length := by
  have hl : bs.length = A.length + (chL c).length + B.length := by rw [hb]; simp; omega
  cases e : inB c (-100) 100
  · have e1 := chL_n e
    have l4 : (chL c).length = 4 := by rw [e1]; rfl
    have g0 : elAt bs A.length = 255 := by have := elAt_mid A (chL c) B (i := 0) (by omega); rw [← hb, Nat.add_zero] at this; rw [this, e1]; rfl
    have g1 : elAt bs (A.length + 1) = (c + 60000) / 65536 := by have := elAt_mid A (chL c) B (i := 1) (by omega); rw [← hb] at this; rw [this, e1]; rfl
    have g2 : elAt bs (A.length + 2) = (c + 60000) / 256 % 256 := by have := elAt_mid A (chL c) B (i := 2) (by omega); rw [← hb] at this; rw [this, e1]; rfl
    have g3 : elAt bs (A.length + 3) = (c + 60000) % 256 := by have := elAt_mid A (chL c) B (i := 3) (by omega); rw [← hb] at this; rw [this, e1]; rfl
    have hv : lgV bs A.length = c := by rw [lgV, g1, g2, g3]; omega
    have hs : sbB bs A.length = false := by rw [sbB, g0]; rfl
    have h4 : ch4B bs A.length = true := by rw [ch4B, hv, e]; simp [inB]; omega
    have := nx_long hs g0 (by omega) h4
    exact ⟨this.1, by rw [this.2.1, hv], by rw [this.2.2, l4]⟩
  · have e1 := chL_y e
    have l1 : (chL c).length = 1 := by rw [e1]; rfl
    have g0 : elAt bs A.length = c + 100 := by have := elAt_mid A (chL c) B (i := 0) (by omega); rw [← hb, Nat.add_zero] at this; rw [this, e1]; rfl
    have hs : sbB bs A.length = true := by rw [sbB, g0, show c + 100 - 100 = c by omega]; exact e
    have := nx_small (by omega) hs
    exact ⟨this.1, by rw [this.2.1, g0]; omega, by rw [this.2.2, l1]⟩
theorem pkJ_pre (z : List (List Int)) (i : Nat) {k : Nat} : ∀ {n : Nat}, k ≤ n → ∃ B, pkJ z i n = pkJ z i k ++ B
  | 0, h => by obtain rfl : k = 0 := by omega
               exact ⟨[], by simp⟩
  | n + 1, h => by
    by_cases e : k = n + 1
    · subst e; exact ⟨[], by simp⟩
    · obtain ⟨B, hB⟩ := pkJ_pre z i (k := k) (n := n) (by omega)
      exact ⟨B ++ chL (chC z i n), by rw [pkJ, hB, List.append_assoc]⟩
theorem pkI_pre (z : List (List Int)) {i : Nat} : ∀ {n : Nat}, i ≤ n → ∃ B, pkI z n = pkI z i ++ B
  | 0, h => by obtain rfl : i = 0 := by omega
               exact ⟨[], by simp⟩
  | n + 1, h => by
    by_cases e : i = n + 1
    · subst e; exact ⟨[], by simp⟩
    · obtain ⟨B, hB⟩ := pkI_pre z (i := i) (n := n) (by omega)
      exact ⟨B ++ pkJ z n (wdN z), by rw [pkI, hB, List.append_assoc]⟩
theorem pk_pre (z : List (List Int)) {i k : Nat} (hi : i < z.length) (hk : k < wdN z) : ∃ B, pkF z = pkK z i k ++ chL (chC z i k) ++ B := by
  obtain ⟨B, hB⟩ := pkI_pre z (i := i + 1) (n := z.length) (by omega)
  obtain ⟨C, hC⟩ := pkJ_pre z i (k := k + 1) (n := wdN z) (by omega)
  refine ⟨C ++ B, ?_⟩
  rw [pkF, hB, pkI, hC, pkJ, pkK]
  simp [List.append_assoc]
theorem take_nth {r : List Int} {k : Nat} (h : k < r.length) : r.take (k + 1) = r.take k ++ [nth r k] := by
  rw [List.take_succ_eq_append_getElem h]; simp [nth, h]
theorem take_nthS {z : List (List Int)} {k : Nat} (h : k < z.length) : z.take (k + 1) = z.take k ++ [nthS z k] := by
  rw [List.take_succ_eq_append_getElem h]; simp [nthS, h]
theorem rt_row {z : List (List Int)} (h : rcB z = true) {i : Nat} (hi : i < z.length) : ∀ k, k ≤ wdN z → unRow (pkF z) (ahL z i) (pkI z i).length k = ⟨0, (pkK z i k).length, (nthS z i).take k⟩
  | 0, _ => by rw [unRow, pkK_zero]; simp
  | k + 1, hk => by
    have ih := rt_row h hi k (by omega)
    have hc := chC_in h hi (k := k) (by omega)
    obtain ⟨B, hB⟩ := pk_pre z hi (k := k) (by omega)
    have q := nx_at hB hc.1 hc.2
    have hv : nth (ahL z i) k + nxV (pkF z) (pkK z i k).length = nth (nthS z i) k := by rw [q.2.1, chC]; omega
    have hr := row_in h hi (k := k) (by omega)
    rw [unRow, ih, unSt_yes q.1 (by rw [hv]; simp [inB]; omega), hv, q.2.2, pkK_succ, List.length_append, take_nth (by rw [((rcB_facts h).2 i hi).1]; exact hk)]
theorem ahU_take {z : List (List Int)} {i : Nat} (hi : i < z.length) : ahU (wdN z) (z.take i) i = ahL z i := by
  cases i with
  | zero => rfl
  | succ j => simp [ahU, ahL, nthS]
theorem rt_rec {z : List (List Int)} (h : rcB z = true) : ∀ i, i ≤ z.length → unRec (pkF z) (wdN z) i = ⟨0, (pkI z i).length, z.take i⟩
  | 0, _ => by simp [unRec, pkI]
  | i + 1, hi => by
    have ih := rt_rec h i (by omega)
    have q := rt_row h (show i < z.length by omega) (wdN z) (Nat.le_refl _)
    have e := ahU_take (z := z) (show i < z.length by omega)
    have hl : (nthS z i).take (wdN z) = nthS z i := List.take_of_length_le (by rw [((rcB_facts h).2 i (by omega)).1]; exact Nat.le_refl _)
    rw [unRec_yes ih (by rw [e, q]), e, q, hl, pkK_row, take_nthS (by omega)]
theorem pkF_head (z : List (List Int)) : ∃ B, pkF z = (wdN z : Int) :: (z.length : Int) :: B := by
  obtain ⟨B, hB⟩ := pkI_pre z (i := 0) (n := z.length) (by omega)
  exact ⟨B, by rw [pkF, hB]; rfl⟩
/-- Read again: the code is 0, the place 0, the rows the record's. -/
theorem rt_all {z : List (List Int)} (h : rcB z = true) : unCo (pkF z) = 0 ∧ unPl (pkF z) = 0 ∧ unLs (pkF z) = z := by
  obtain ⟨B, hB⟩ := pkF_head z
  have g0 : elAt (pkF z) 0 = (wdN z : Int) := by rw [hB]; rfl
  have g1 : elAt (pkF z) 1 = (z.length : Int) := by rw [hB]; rfl
  have gl : 2 ≤ (pkF z).length := by rw [hB]; simp
  have w8 := wdN_le h
  have l2 := (rcB_facts h).1
  have hw : (wdN z = 0 ↔ z.length = 0) := by
    constructor
    · intro e
      by_cases h0 : z.length = 0
      · exact h0
      · have := ((rcB_facts h).2 0 (by omega)).2.1
        unfold wdN at e; omega
    · exact wdN_nil
  have hd : hdC (pkF z) = 0 := by
    have e : (((wdN z : Int) == 0) != ((z.length : Int) == 0)) = false := by
      by_cases h0 : z.length = 0
      · rw [hw.2 h0, h0]; rfl
      · have a : ((wdN z : Int) == 0) = false := by rw [beq_eq_false_iff_ne]; intro e; exact h0 (hw.1 (by omega))
        have b : ((z.length : Int) == 0) = false := by rw [beq_eq_false_iff_ne]; omega
        rw [a, b]; rfl
    rw [hdC, g0, g1, e, if_neg (by omega), if_neg (by omega), if_neg (by omega), if_neg (by omega), if_neg (by simp)]
  have ht : unT (pkF z) = ⟨0, (pkF z).length, z⟩ := by
    rw [unT, hdW, hdM, g0, g1, Int.toNat_natCast, Int.toNat_natCast, rt_rec h _ (Nat.le_refl _), List.take_length, pkF]
  exact un_well hd ht (by omega)

end Go.Proofs.Ytfnnfldfnjnlfag

namespace Go.Proofs.Ytfnnfldfnjnlfag

def ByB (bs : List Int) : Prop := ∀ i, i < bs.length → 0 ≤ elAt bs i ∧ elAt bs i ≤ 255
theorem take_elAt {bs : List Int} {t : Nat} (h : t < bs.length) : bs.take (t + 1) = bs.take t ++ [elAt bs t] := by
  rw [List.take_succ_eq_append_getElem h]; simp [elAt, h]
theorem nx_bytes {bs : List Int} {t : Nat} (hb : ByB bs) (h : nxC bs t = 0) : bs.take (t + nxS bs t) = bs.take t ++ chL (nxV bs t) := by
  have hw := nx_well h
  unfold nxC at h
  split at h
  · cases h
  · rename_i h0
    split at h
    · rename_i hs
      have hn := nx_small (by omega) hs
      have hs' : inB (elAt bs t - 100) (-100) 100 = true := hs
      rw [hn.2.2, hn.2.1, chL_y hs', take_elAt (by omega), show elAt bs t - 100 + 100 = elAt bs t by omega]
    · rename_i hs
      have hs' : sbB bs t = false := by simpa using hs
      split at h
      · cases h
      · rename_i h255
        split at h
        · cases h
        · rename_i h4
          split at h
          · rename_i hl
            have g0 : elAt bs t = 255 := by simpa using h255
            have hn := nx_long hs' g0 (by omega) hl
            have hi : inB (lgV bs t) (-100) 100 = false := by
              simp only [ch4B, Bool.and_eq_true] at hl
              simpa using hl.1
            have b1 := hb (t + 1) (by omega)
            have b2 := hb (t + 2) (by omega)
            have b3 := hb (t + 3) (by omega)
            have x1 : (lgV bs t + 60000) / 65536 = elAt bs (t + 1) := by unfold lgV; omega
            have x2 : (lgV bs t + 60000) / 256 % 256 = elAt bs (t + 2) := by unfold lgV; omega
            have x3 : (lgV bs t + 60000) % 256 = elAt bs (t + 3) := by unfold lgV; omega
            rw [hn.2.2, hn.2.1, chL_n hi, x1, x2, x3, show t + 4 = t + 3 + 1 from rfl, take_elAt (by omega), show t + 3 = t + 2 + 1 from rfl, take_elAt (by omega), show t + 2 = t + 1 + 1 from rfl, take_elAt (by omega), take_elAt (by omega), g0]
            simp
          · cases h
/-- The bytes of a row's first changes. -/
def chJ (ah r : List Int) : Nat → List Int
  | 0 => []
  | k + 1 => chJ ah r k ++ chL (nth r k - nth ah k)
theorem chJ_more (ah r : List Int) (x : Int) : ∀ k, k ≤ r.length → chJ ah (r ++ [x]) k = chJ ah r k
  | 0, _ => rfl
  | k + 1, h => by
    rw [chJ, chJ, chJ_more ah r x k (by omega), show nth (r ++ [x]) k = nth r k by unfold nth; rw [List.getElem?_append_left (by omega)]]
theorem row_back {bs ah : List Int} {t0 : Nat} (hb : ByB bs) (h0 : t0 ≤ bs.length) : ∀ n, (unRow bs ah t0 n).c = 0 → bs.take (unRow bs ah t0 n).t = bs.take t0 ++ chJ ah (unRow bs ah t0 n).z n
  | 0, _ => by simp [unRow, chJ]
  | n + 1, h => by
    have ok := unRow_ok (bs := bs) (ah := ah) h0 n
    have ih := row_back (ah := ah) hb h0 n
    rw [unRow] at h ⊢
    generalize unRow bs ah t0 n = s at h ih ok ⊢
    obtain ⟨c, t, z⟩ := s
    unfold unSt at h ⊢
    dsimp only at h ih ok ⊢
    by_cases hc : c ≠ 0
    · rw [if_pos hc] at h; exact absurd h hc
    · rw [if_neg hc] at h ⊢
      have ih := ih (by omega)
      have ok := ok (by omega)
      by_cases hn : nxC bs t ≠ 0
      · rw [if_pos hn] at h; exact absurd h hn
      · rw [if_neg hn] at h ⊢
        by_cases hv : inB (nth ah n + nxV bs t) (-30000) 30000 = false
        · rw [if_pos hv] at h; cases h
        · rw [if_neg hv]
          dsimp only
          rw [nx_bytes hb (by omega), ih, chJ, chJ_more _ _ _ _ (by omega), List.append_assoc]
          rw [show nth (z ++ [nth ah n + nxV bs t]) n = nth ah n + nxV bs t by unfold nth; rw [← ok.1]; simp]
          rw [show nth ah n + nxV bs t - nth ah n = nxV bs t by omega]
/-- The bytes of the first rows. -/
def chI (wd : Nat) (z : List (List Int)) : Nat → List Int
  | 0 => []
  | i + 1 => chI wd z i ++ chJ (ahU wd z i) (nthS z i) wd
theorem nthS_more {z : List (List Int)} {r : List Int} {j : Nat} (h : j < z.length) : nthS (z ++ [r]) j = nthS z j := by
  unfold nthS; rw [List.getElem?_append_left h]
theorem ahU_more {wd : Nat} {z : List (List Int)} {r : List Int} {j : Nat} (h : j ≤ z.length) : ahU wd (z ++ [r]) j = ahU wd z j := by
  cases j with
  | zero => rfl
  | succ j => exact nthS_more (by omega)
theorem chI_more (wd : Nat) (z : List (List Int)) (r : List Int) : ∀ i, i ≤ z.length → chI wd (z ++ [r]) i = chI wd z i
  | 0, _ => rfl
  | i + 1, h => by rw [chI, chI, chI_more wd z r i (by omega), ahU_more (by omega), nthS_more (by omega)]
theorem rec_back {bs : List Int} {wd : Nat} (hb : ByB bs) (h2 : 2 ≤ bs.length) : ∀ n, (unRec bs wd n).c = 0 → bs.take (unRec bs wd n).t = bs.take 2 ++ chI wd (unRec bs wd n).z n
  | 0, _ => by simp [unRec, chI]
  | n + 1, h => by
    have ok := unRec_ok (bs := bs) (wd := wd) h2 n
    have ih := rec_back (wd := wd) hb h2 n
    rw [unRec] at h ⊢
    generalize unRec bs wd n = s at h ih ok ⊢
    obtain ⟨c, t, z⟩ := s
    unfold unRs at h ⊢
    dsimp only at h ih ok ⊢
    by_cases hc : c ≠ 0
    · rw [if_pos hc] at h; exact absurd h hc
    · rw [if_neg hc] at h ⊢
      have ih := ih (by omega)
      have ok := ok (by omega)
      by_cases hn : (unRow bs (ahU wd z n) t wd).c ≠ 0
      · rw [if_pos hn] at h; exact absurd h hn
      · rw [if_neg hn]
        dsimp only
        have hr := row_back (ah := ahU wd z n) hb ok.2.1 wd (by omega)
        rw [hr, ih, chI, chI_more _ _ _ _ (by omega), ahU_more (by omega), List.append_assoc]
        rw [show nthS (z ++ [(unRow bs (ahU wd z n) t wd).z]) n = (unRow bs (ahU wd z n) t wd).z by unfold nthS; rw [← ok.1]; simp]
theorem pkJ_chJ (z : List (List Int)) (i : Nat) : ∀ k, pkJ z i k = chJ (ahL z i) (nthS z i) k
  | 0 => rfl
  | k + 1 => by rw [pkJ, chJ, pkJ_chJ z i k, chC]
theorem ahU_ahL (z : List (List Int)) (i : Nat) : ahU (wdN z) z i = ahL z i := by cases i <;> rfl
theorem pkI_chI (z : List (List Int)) : ∀ i, pkI z i = [(wdN z : Int), (z.length : Int)] ++ chI (wdN z) z i
  | 0 => by simp [pkI, chI]
  | i + 1 => by rw [pkI, chI, pkI_chI z i, pkJ_chJ, ahU_ahL, List.append_assoc]
/-- Read well: the rows are a record that is right, and its bytes are the bytes read. -/
theorem back_all {bs : List Int} (hb : ByB bs) (h : unCo bs = 0) : rcB (unLs bs) = true ∧ pkF (unLs bs) = bs := by
  have hd : hdC bs = 0 := by
    by_cases e : hdC bs = 0
    · exact e
    · rw [unCo, if_pos e] at h; omega
  rw [unLs, if_pos h]
  rw [unCo, if_neg (by simp [hd])] at h
  have hc : (unT bs).c = 0 := by
    by_cases e : (unT bs).c = 0
    · exact e
    · rw [if_pos e] at h; omega
  rw [if_neg (by simp [hc])] at h
  have ht : ¬ (unT bs).t < bs.length := by intro e; rw [if_pos e] at h; omega
  have q := hd_ok hb hd
  have ok := unRec_ok (bs := bs) (wd := hdW bs) q.1 (hdM bs) hc
  have bk := rec_back (wd := hdW bs) hb q.1 (hdM bs) hc
  change (unT bs).z.length = hdM bs ∧ (unT bs).t ≤ bs.length ∧ _ at ok
  change bs.take (unT bs).t = bs.take 2 ++ chI (hdW bs) (unT bs).z (hdM bs) at bk
  have rows : ∀ r ∈ (unT bs).z, r.length = hdW bs ∧ ∀ x ∈ r, -30000 ≤ x ∧ x ≤ 30000 := ok.2.2
  generalize unT bs = s at ht ok bk rows ⊢
  obtain ⟨c, t, z⟩ := s
  dsimp only at ht ok bk rows ⊢
  have hwd : wdN z = hdW bs := by
    by_cases h0 : z.length = 0
    · rw [wdN_nil h0]; have := q.2.2.2.2.2; omega
    · exact (rows _ (nthS_in (i := 0) (by omega))).1
  have t2 : bs.take 2 = [(wdN z : Int), (z.length : Int)] := by
    rw [show (2 : Nat) = 0 + 1 + 1 from rfl, take_elAt (by omega), take_elAt (by omega), q.2.1, show elAt bs (0 + 1) = (hdM bs : Int) from q.2.2.1, hwd, ok.1]; rfl
  refine ⟨?_, ?_⟩
  · refine rcB_yes (fun i hi => ?_) (by have := q.2.2.2.2.1; omega)
    have a := rows _ (nthS_in hi)
    have b := rows _ (nthS_in (z := z) (i := 0) (by omega))
    have := q.2.2.2.2.2
    have := q.2.2.2.1
    rw [rwB, a.1, b.1, Bool.and_eq_true, Bool.and_eq_true]
    refine ⟨⟨by simp, by simp [inB]; omega⟩, allB_true (fun j hj => ?_)⟩
    have := a.2 _ (nth_in hj)
    simp [inB]; omega
  · rw [pkF, pkI_chI, ← t2, hwd, ok.1, ← bk]
    exact List.take_of_length_le (by omega)

end Go.Proofs.Ytfnnfldfnjnlfag

namespace Go.Proofs.Ytfnnfldfnjnlfag

theorem pk_preT (z : List (List Int)) (T : List Int) {i k : Nat} (hi : i < z.length) (hk : k < wdN z) : ∃ B, pkF z ++ T = pkK z i k ++ chL (chC z i k) ++ B := by
  obtain ⟨B, hB⟩ := pk_pre z hi hk
  exact ⟨B ++ T, by rw [hB]; simp [List.append_assoc]⟩
theorem rt_rowT {z : List (List Int)} (T : List Int) (h : rcB z = true) {i : Nat} (hi : i < z.length) : ∀ k, k ≤ wdN z → unRow (pkF z ++ T) (ahL z i) (pkI z i).length k = ⟨0, (pkK z i k).length, (nthS z i).take k⟩
  | 0, _ => by rw [unRow, pkK_zero]; simp
  | k + 1, hk => by
    have ih := rt_rowT T h hi k (by omega)
    have hc := chC_in h hi (k := k) (by omega)
    obtain ⟨B, hB⟩ := pk_preT z T hi (k := k) (by omega)
    have q := nx_at hB hc.1 hc.2
    have hv : nth (ahL z i) k + nxV (pkF z ++ T) (pkK z i k).length = nth (nthS z i) k := by rw [q.2.1, chC]; omega
    have hr := row_in h hi (k := k) (by omega)
    rw [unRow, ih, unSt_yes q.1 (by rw [hv]; simp [inB]; omega), hv, q.2.2, pkK_succ, List.length_append, take_nth (by rw [((rcB_facts h).2 i hi).1]; exact hk)]
theorem rt_recT {z : List (List Int)} (T : List Int) (h : rcB z = true) : ∀ i, i ≤ z.length → unRec (pkF z ++ T) (wdN z) i = ⟨0, (pkI z i).length, z.take i⟩
  | 0, _ => by simp [unRec, pkI]
  | i + 1, hi => by
    have ih := rt_recT T h i (by omega)
    have q := rt_rowT T h (show i < z.length by omega) (wdN z) (Nat.le_refl _)
    have e := ahU_take (z := z) (show i < z.length by omega)
    have hl : (nthS z i).take (wdN z) = nthS z i := List.take_of_length_le (by rw [((rcB_facts h).2 i (by omega)).1]; exact Nat.le_refl _)
    rw [unRec_yes ih (by rw [e, q]), e, q, hl, pkK_row, take_nthS (by omega)]
theorem rt_tail {z : List (List Int)} {T : List Int} (h : rcB z = true) (hT : T ≠ []) : unCo (pkF z ++ T) ≠ 0 := by
  obtain ⟨B, hB⟩ := pkF_head z
  have g0 : elAt (pkF z ++ T) 0 = (wdN z : Int) := by rw [hB]; rfl
  have g1 : elAt (pkF z ++ T) 1 = (z.length : Int) := by rw [hB]; rfl
  have ht : unT (pkF z ++ T) = ⟨0, (pkF z).length, z⟩ := by
    rw [unT, hdW, hdM, g0, g1, Int.toNat_natCast, Int.toNat_natCast, rt_recT T h _ (Nat.le_refl _), List.take_length, pkF]
  have hl : (pkF z).length < (pkF z ++ T).length := by
    have : 0 < T.length := List.length_pos_iff.2 hT
    rw [List.length_append]; omega
  by_cases c : hdC (pkF z ++ T) = 0
  · rw [unCo, ht, if_neg (by simpa using c), if_neg (by simp), if_pos hl]
    decide
  · rw [unCo, if_pos c]
    omega

end Go.Proofs.Ytfnnfldfnjnlfag
