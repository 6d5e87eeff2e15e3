/-
  Bytes read as a record, in plain numbers: the next change, a row, all rows, the codes and their places. No program here.
-/
import Derived.Test.YtfnnfldfnjnlfagPk1
import Derived.Test.YtfnnfldfnjnlfagRowE
namespace Go.Proofs.Ytfnnfldfnjnlfag

/-- A change of four bytes; whether one byte is a change; the next change's code, value and size. -/
def lgV (bs : List Int) (t : Nat) : Int := elAt bs (t + 1) * 65536 + elAt bs (t + 2) * 256 + elAt bs (t + 3) - 60000
def sbB (bs : List Int) (t : Nat) : Bool := inB (elAt bs t - 100) (-100) 100
def ch4B (bs : List Int) (t : Nat) : Bool := !inB (lgV bs t) (-100) 100 && inB (lgV bs t) (-60000) 60000
def nxC (bs : List Int) (t : Nat) : Nat := if bs.length ≤ t then 1 else if sbB bs t = true then 0 else if elAt bs t ≠ 255 then 2 else if bs.length < t + 4 then 1 else if ch4B bs t = true then 0 else 2
def nxV (bs : List Int) (t : Nat) : Int := if sbB bs t = true then elAt bs t - 100 else lgV bs t
def nxS (bs : List Int) (t : Nat) : Nat := if sbB bs t = true then 1 else 4
theorem nx_short {bs : List Int} {t : Nat} (h : bs.length ≤ t) : nxC bs t = 1 := by rw [nxC, if_pos h]
theorem nx_small {bs : List Int} {t : Nat} (h : t < bs.length) (hs : sbB bs t = true) : nxC bs t = 0 ∧ nxV bs t = elAt bs t - 100 ∧ nxS bs t = 1 := by
  rw [nxC, if_neg (by omega), if_pos hs, nxV, if_pos hs, nxS, if_pos hs]; exact ⟨rfl, rfl, rfl⟩
theorem nx_byte {bs : List Int} {t : Nat} (h : t < bs.length) (hs : sbB bs t = false) (hb : elAt bs t ≠ 255) : nxC bs t = 2 := by
  rw [nxC, if_neg (by omega), if_neg (by rw [hs]; simp), if_pos hb]
theorem nx_short4 {bs : List Int} {t : Nat} (h : t < bs.length) (hs : sbB bs t = false) (hb : elAt bs t = 255) (h4 : bs.length < t + 4) : nxC bs t = 1 := by
  rw [nxC, if_neg (by omega), if_neg (by rw [hs]; simp), if_neg (by simp [hb]), if_pos h4]
theorem nx_bad {bs : List Int} {t : Nat} (hs : sbB bs t = false) (hb : elAt bs t = 255) (h4 : t + 4 ≤ bs.length) (hl : ch4B bs t = false) : nxC bs t = 2 := by
  rw [nxC, if_neg (by omega), if_neg (by rw [hs]; simp), if_neg (by simp [hb]), if_neg (by omega), if_neg (by rw [hl]; simp)]
theorem nx_long {bs : List Int} {t : Nat} (hs : sbB bs t = false) (hb : elAt bs t = 255) (h4 : t + 4 ≤ bs.length) (hl : ch4B bs t = true) : nxC bs t = 0 ∧ nxV bs t = lgV bs t ∧ nxS bs t = 4 := by
  rw [nxC, if_neg (by omega), if_neg (by rw [hs]; simp), if_neg (by simp [hb]), if_neg (by omega), if_pos hl, nxV, if_neg (by rw [hs]; simp), nxS, if_neg (by rw [hs]; simp)]; exact ⟨rfl, rfl, rfl⟩
theorem nx_well {bs : List Int} {t : Nat} (h : nxC bs t = 0) : t + nxS bs t ≤ bs.length ∧ 1 ≤ nxS bs t ∧ nxS bs t ≤ 4 ∧ -60000 ≤ nxV bs t ∧ nxV bs t ≤ 60000 := by
  unfold nxC at h
  split at h
  · cases h
  · split at h
    · rename_i hs
      have := hs
      simp only [sbB, inB, decide_eq_true_eq] at this
      simp only [nxS, nxV, if_pos hs]; omega
    · split at h
      · cases h
      · split at h
        · cases h
        · split at h
          · rename_i hs _ _ hl
            simp only [ch4B, Bool.and_eq_true, inB, decide_eq_true_eq] at hl
            simp only [nxS, nxV, if_neg hs]; omega
          · cases h
theorem nx_code (bs : List Int) (t : Nat) : nxC bs t = 0 ∨ nxC bs t = 1 ∨ nxC bs t = 2 := by
  unfold nxC; split
  · simp
  · split
    · simp
    · split
      · simp
      · split
        · simp
        · split <;> simp

/-! A row. -/
structure UrS where
  c : Nat
  t : Nat
  z : List Int
def unSt (bs ah : List Int) (k : Nat) (s : UrS) : UrS :=
  if s.c ≠ 0 then s else if nxC bs s.t ≠ 0 then ⟨nxC bs s.t, s.t, s.z⟩ else if inB (nth ah k + nxV bs s.t) (-30000) 30000 = false then ⟨3, s.t, s.z⟩ else ⟨0, s.t + nxS bs s.t, s.z ++ [nth ah k + nxV bs s.t]⟩
def unRow (bs ah : List Int) (t0 : Nat) : Nat → UrS
  | 0 => ⟨0, t0, []⟩
  | k + 1 => unSt bs ah k (unRow bs ah t0 k)
theorem unSt_code {bs ah : List Int} {k t : Nat} {z : List Int} {c : Nat} (h : nxC bs t = c) (hc : c ≠ 0) : unSt bs ah k ⟨0, t, z⟩ = ⟨c, t, z⟩ := by
  subst h; simp only [unSt, ne_eq, not_true_eq_false, if_false, if_pos hc]
theorem unSt_val {bs ah : List Int} {k t : Nat} {z : List Int} (h : nxC bs t = 0) (hv : inB (nth ah k + nxV bs t) (-30000) 30000 = false) : unSt bs ah k ⟨0, t, z⟩ = ⟨3, t, z⟩ := by
  simp [unSt, h, hv]
theorem unSt_yes {bs ah : List Int} {k t : Nat} {z : List Int} (h : nxC bs t = 0) (hv : inB (nth ah k + nxV bs t) (-30000) 30000 = true) : unSt bs ah k ⟨0, t, z⟩ = ⟨0, t + nxS bs t, z ++ [nth ah k + nxV bs t]⟩ := by
  simp [unSt, h, hv]
theorem unRow_stop {bs ah : List Int} {t0 k : Nat} (h : (unRow bs ah t0 k).c ≠ 0) : ∀ n, k ≤ n → unRow bs ah t0 n = unRow bs ah t0 k
  | 0, hn => by obtain rfl : k = 0 := by omega
                rfl
  | n + 1, hn => by
    by_cases e : k = n + 1
    · rw [e]
    · have := unRow_stop h n (by omega)
      rw [unRow, this, unSt, if_pos h]
/-- What a row is that goes on: its length, its place, its values. -/
theorem unRow_ok {bs ah : List Int} {t0 : Nat} (h0 : t0 ≤ bs.length) : ∀ k, (unRow bs ah t0 k).c = 0 → (unRow bs ah t0 k).z.length = k ∧ t0 ≤ (unRow bs ah t0 k).t ∧ (unRow bs ah t0 k).t ≤ bs.length ∧ ∀ x ∈ (unRow bs ah t0 k).z, -30000 ≤ x ∧ x ≤ 30000
  | 0, _ => by simp [unRow, h0]
  | k + 1, h => by
    rw [unRow] at h ⊢
    have ih := unRow_ok (ah := ah) h0 k
    generalize unRow bs ah t0 k = s at h ih ⊢
    unfold unSt at h ⊢
    by_cases hc : s.c ≠ 0
    · rw [if_pos hc] at h; exact absurd h hc
    · rw [if_neg hc] at h ⊢
      have ih := ih (by omega)
      by_cases hn : nxC bs s.t ≠ 0
      · rw [if_pos hn] at h; exact absurd h hn
      · rw [if_neg hn] at h ⊢
        have w := nx_well (show nxC bs s.t = 0 by omega)
        by_cases hv : inB (nth ah k + nxV bs s.t) (-30000) 30000 = false
        · rw [if_pos hv] at h; cases h
        · rw [if_neg hv]
          have hv : inB (nth ah k + nxV bs s.t) (-30000) 30000 = true := by simpa using hv
          simp only [inB, decide_eq_true_eq] at hv
          refine ⟨by simp [ih.1], by show t0 ≤ s.t + _; omega, by show s.t + _ ≤ _; omega, fun x hx => ?_⟩
          rcases List.mem_append.1 hx with hx | hx
          · exact ih.2.2.2 x hx
          · rw [List.mem_singleton] at hx; rw [hx]; exact hv

/-! All rows. -/
structure Ut where
  c : Nat
  t : Nat
  z : List (List Int)
def ahU (wd : Nat) (rows : List (List Int)) : Nat → List Int
  | 0 => List.replicate wd 0
  | i + 1 => nthS rows i
def unRs (bs : List Int) (wd i : Nat) (s : Ut) : Ut :=
  if s.c ≠ 0 then s else if (unRow bs (ahU wd s.z i) s.t wd).c ≠ 0 then ⟨(unRow bs (ahU wd s.z i) s.t wd).c, (unRow bs (ahU wd s.z i) s.t wd).t, s.z⟩ else ⟨0, (unRow bs (ahU wd s.z i) s.t wd).t, s.z ++ [(unRow bs (ahU wd s.z i) s.t wd).z]⟩
def unRec (bs : List Int) (wd : Nat) : Nat → Ut
  | 0 => ⟨0, 2, []⟩
  | i + 1 => unRs bs wd i (unRec bs wd i)
theorem unRec_stop {bs : List Int} {wd k : Nat} (h : (unRec bs wd k).c ≠ 0) : ∀ n, k ≤ n → unRec bs wd n = unRec bs wd k
  | 0, hn => by obtain rfl : k = 0 := by omega
                rfl
  | n + 1, hn => by
    by_cases e : k = n + 1
    · rw [e]
    · have := unRec_stop h n (by omega)
      rw [unRec, this, unRs, if_pos h]
theorem unRec_ok {bs : List Int} {wd : Nat} (h0 : 2 ≤ bs.length) : ∀ k, (unRec bs wd k).c = 0 → (unRec bs wd k).z.length = k ∧ (unRec bs wd k).t ≤ bs.length ∧ ∀ r ∈ (unRec bs wd k).z, r.length = wd ∧ ∀ x ∈ r, -30000 ≤ x ∧ x ≤ 30000
  | 0, _ => by simp [unRec, h0]
  | k + 1, h => by
    rw [unRec] at h ⊢
    have ih := unRec_ok (wd := wd) h0 k
    generalize unRec bs wd k = s at h ih ⊢
    unfold unRs at h ⊢
    by_cases hc : s.c ≠ 0
    · rw [if_pos hc] at h; exact absurd h hc
    · rw [if_neg hc] at h ⊢
      have ih := ih (by omega)
      by_cases hn : (unRow bs (ahU wd s.z k) s.t wd).c ≠ 0
      · rw [if_pos hn] at h; exact absurd h hn
      · rw [if_neg hn]
        have q := unRow_ok (bs := bs) (ah := ahU wd s.z k) ih.2.1 wd (by omega)
        refine ⟨by simp [ih.1], q.2.2.1, fun r hr => ?_⟩
        rcases List.mem_append.1 hr with hr | hr
        · exact ih.2.2 r hr
        · rw [List.mem_singleton] at hr; rw [hr]; exact ⟨q.1, q.2.2.2⟩
theorem unRec_no {bs : List Int} {wd i t : Nat} {z : List (List Int)} (h : unRec bs wd i = ⟨0, t, z⟩) (hc : (unRow bs (ahU wd z i) t wd).c ≠ 0) : unRec bs wd (i + 1) = ⟨(unRow bs (ahU wd z i) t wd).c, (unRow bs (ahU wd z i) t wd).t, z⟩ := by
  rw [unRec, h, unRs, if_neg (by simp), if_pos hc]
theorem unRec_yes {bs : List Int} {wd i t : Nat} {z : List (List Int)} (h : unRec bs wd i = ⟨0, t, z⟩) (hc : (unRow bs (ahU wd z i) t wd).c = 0) : unRec bs wd (i + 1) = ⟨0, (unRow bs (ahU wd z i) t wd).t, z ++ [(unRow bs (ahU wd z i) t wd).z]⟩ := by
  rw [unRec, h, unRs, if_neg (by simp), if_neg (by simp [hc])]

/-! The head, and the answer. -/
def hdC (bs : List Int) : Nat := if bs.length < 1 then 1 else if 8 < elAt bs 0 then 2 else if bs.length < 2 then 1 else if 200 < elAt bs 1 then 2 else if (elAt bs 0 == 0) != (elAt bs 1 == 0) then 2 else 0
def hdA (bs : List Int) : Nat := if 8 < elAt bs 0 then 0 else 1
def hdW (bs : List Int) : Nat := (elAt bs 0).toNat
def hdM (bs : List Int) : Nat := (elAt bs 1).toNat
def unT (bs : List Int) : Ut := unRec bs (hdW bs) (hdM bs)
def unCo (bs : List Int) : Int := if hdC bs ≠ 0 then hdC bs else if (unT bs).c ≠ 0 then (unT bs).c else if (unT bs).t < bs.length then 4 else 0
def unPl (bs : List Int) : Int := if hdC bs = 1 then bs.length else if hdC bs ≠ 0 then hdA bs else if (unT bs).c = 1 then bs.length else if (unT bs).c ≠ 0 then (unT bs).t else if (unT bs).t < bs.length then (unT bs).t else 0
def unLs (bs : List Int) : List (List Int) := if unCo bs = 0 then (unT bs).z else []
theorem un_h1 {bs : List Int} (h : hdC bs = 1) : unCo bs = 1 ∧ unPl bs = bs.length ∧ unLs bs = [] := by
  have a : unCo bs = 1 := by simp [unCo, h]
  exact ⟨a, by simp [unPl, h], by simp [unLs, a]⟩
theorem un_h2 {bs : List Int} (h : hdC bs = 2) : unCo bs = 2 ∧ unPl bs = hdA bs ∧ unLs bs = [] := by
  have a : unCo bs = 2 := by simp [unCo, h]
  exact ⟨a, by simp [unPl, h], by simp [unLs, a]⟩
theorem un_code {bs : List Int} (h : hdC bs = 0) {c t : Nat} {z : List (List Int)} (hr : unT bs = ⟨c, t, z⟩) (hc : c ≠ 0) : unCo bs = c ∧ unPl bs = (if c = 1 then (bs.length : Int) else (t : Int)) ∧ unLs bs = [] := by
  have a : unCo bs = c := by simp [unCo, h, hr, hc]
  refine ⟨a, ?_, ?_⟩
  · simp [unPl, h, hr, hc]
  · rw [unLs, if_neg (by rw [a]; omega)]
theorem un_more {bs : List Int} (h : hdC bs = 0) {t : Nat} {z : List (List Int)} (hr : unT bs = ⟨0, t, z⟩) (ht : t < bs.length) : unCo bs = 4 ∧ unPl bs = t ∧ unLs bs = [] := by
  have a : unCo bs = 4 := by simp [unCo, h, hr, ht]
  refine ⟨a, by simp [unPl, h, hr, ht], by rw [unLs, if_neg (by rw [a]; omega)]⟩
theorem un_well {bs : List Int} (h : hdC bs = 0) {t : Nat} {z : List (List Int)} (hr : unT bs = ⟨0, t, z⟩) (ht : ¬ t < bs.length) : unCo bs = 0 ∧ unPl bs = 0 ∧ unLs bs = z := by
  have a : unCo bs = 0 := by simp [unCo, h, hr, ht]
  refine ⟨a, by simp [unPl, h, hr, ht], by rw [unLs, if_pos a, hr]⟩
theorem hd_ok {bs : List Int} (hb : ∀ i, i < bs.length → 0 ≤ elAt bs i ∧ elAt bs i ≤ 255) (h : hdC bs = 0) : 2 ≤ bs.length ∧ elAt bs 0 = (hdW bs : Int) ∧ elAt bs 1 = (hdM bs : Int) ∧ hdW bs ≤ 8 ∧ hdM bs ≤ 200 ∧ (hdW bs = 0 ↔ hdM bs = 0) := by
  unfold hdC at h
  split at h
  · cases h
  · split at h
    · cases h
    · split at h
      · cases h
      · split at h
        · cases h
        · split at h
          · cases h
          · rename_i a b c d e
            have x := hb 0 (by omega)
            have y := hb 1 (by omega)
            have e2 : (elAt bs 0 == 0) = (elAt bs 1 == 0) := by simpa using e
            refine ⟨by omega, by unfold hdW; omega, by unfold hdM; omega, by unfold hdW; omega, by unfold hdM; omega, ?_⟩
            unfold hdW hdM
            by_cases g : elAt bs 0 = 0
            · have : (elAt bs 1 == 0) = true := by rw [← e2, g]; rfl
              have : elAt bs 1 = 0 := by simpa using this
              omega
            · have : (elAt bs 1 == 0) = false := by rw [← e2]; simpa using g
              have : elAt bs 1 ≠ 0 := by simpa using this
              omega
theorem unLs_fit {bs : List Int} (hb : ∀ i, i < bs.length → 0 ≤ elAt bs i ∧ elAt bs i ≤ 255) : (unLs bs).length ≤ 400 ∧ ∀ r ∈ unLs bs, r.length ≤ 32 := by
  unfold unLs
  split
  · rename_i h
    by_cases hh : hdC bs = 0
    · have k := hd_ok hb hh
      have hc : (unT bs).c = 0 := by
        unfold unCo at h
        rw [if_neg (by simp [hh])] at h
        by_cases g : (unT bs).c ≠ 0
        · rw [if_pos g] at h; omega
        · omega
      have q := unRec_ok (bs := bs) (wd := hdW bs) k.1 (hdM bs) hc
      exact ⟨by rw [show (unT bs).z.length = hdM bs from q.1]; omega, fun r hr => by have := (q.2.2 r hr).1; omega⟩
    · exfalso
      unfold unCo at h
      rw [if_pos hh] at h
      omega
  · simp

end Go.Proofs.Ytfnnfldfnjnlfag
