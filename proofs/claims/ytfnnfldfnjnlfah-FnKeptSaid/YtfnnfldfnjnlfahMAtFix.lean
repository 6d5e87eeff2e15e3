/-
  The law's at tells one number in every world in which the bytes are as they were. At every list of at most 1048576 bytes.
  Where two records differ first, in plain numbers: what is found. No program here.
  Bytes read as a record, in plain numbers: the next change, a row, all rows, the codes and their places. No program here.
  A record packed and read again is the record: plain numbers. No program here.
  One operation after the other of a region that recovers, as laws. No condition.
-/
import Derived.Test.YtfnnfldfnjnlfahMRowS
import Derived.Test.YtfnnfldfnjnlfahMMakeS
import Derived.Test.YtfnnfldfnjnlfahRowE
import Derived.Test.YtfnnfldfnjnlfahMBase
import Derived.Recover

namespace Go.Proofs.Ytfnnfldfnjnlfah
open Go.RowKit

end Go.Proofs.Ytfnnfldfnjnlfah

namespace Go.Proofs.Ytfnnfldfnjnlfah

theorem rng_at {p : Nat → Bool} {n k : Nat} (hk : k < n) (h : p k = true) (hb : ∀ j, j < k → p j = false) : (List.range n).find? p = some k := by
  rw [List.find?_range_eq_some]
  exact ⟨h, by simpa using hk, fun j hj => by rw [hb j hj]; rfl⟩
theorem rng_none {p : Nat → Bool} {n : Nat} (hb : ∀ j, j < n → p j = false) : (List.range n).find? p = none := by
  rw [List.find?_eq_none]
  intro j hj
  rw [hb j (by simpa using hj)]; simp
/-- The first unlike column, -1 where there is none. -/
def unR (a b : List Int) : Int := match unF a b with | none => -1 | some k => (k : Int)
theorem unR_at {a b : List Int} {k : Nat} (hk : k < max a.length b.length) (h : unI a b k = true) (hb : ∀ j, j < k → unI a b j = false) : unF a b = some k := rng_at hk h hb
theorem unR_no {a b : List Int} (hb : ∀ j, j < max a.length b.length → unI a b j = false) : unF a b = none := rng_none hb
theorem df_no {A B : List (List Int)} (h : (rcB A && rcB B) = false) : dfR A B = -2 ∧ dfCo A B = -2 ∧ dfO A B = false := by
  simp [dfR, dfCo, dfO, dfBo, h]
theorem df_here {A B : List (List Int)} {i k : Nat} (h : (rcB A && rcB B) = true) (hi : i < max A.length B.length) (hk : unF (nthS A i) (nthS B i) = some k) (hb : ∀ j, j < i → unF (nthS A j) (nthS B j) = none) : dfR A B = i ∧ dfCo A B = k ∧ dfO A B = false := by
  have : dfF A B = some i := rng_at hi (by rw [hk]; rfl) (fun j hj => by rw [hb j hj]; rfl)
  simp [dfR, dfCo, dfO, dfBo, h, this, hk]
theorem df_none {A B : List (List Int)} (h : (rcB A && rcB B) = true) (hb : ∀ j, j < max A.length B.length → unF (nthS A j) (nthS B j) = none) : dfR A B = -1 ∧ dfCo A B = -1 ∧ dfO A B = true := by
  have : dfF A B = none := rng_none (fun j hj => by rw [hb j hj]; rfl)
  simp [dfR, dfCo, dfO, dfBo, h, this]
theorem nthS_out {A : List (List Int)} {i : Nat} (h : A.length ≤ i) : nthS A i = [] := by simp [nthS, h]
/-- A row that one of them lacks differs at its first column. -/
theorem un_lack {A B : List (List Int)} {i : Nat} (h : (rcB A && rcB B) = true) (hi : i < max A.length B.length) (hl : A.length ≤ i ∨ B.length ≤ i) : unF (nthS A i) (nthS B i) = some 0 := by
  rw [Bool.and_eq_true] at h
  have hA := (rcB_facts h.1).2
  have hB := (rcB_facts h.2).2
  rcases hl with hl | hl
  · have hb : i < B.length := by omega
    have := hB i hb
    refine unR_at (by omega) ?_ (fun j hj => by omega)
    rw [nthS_out hl]; simp [unI]
  · have ha : i < A.length := by omega
    have := hA i ha
    refine unR_at (by omega) ?_ (fun j hj => by omega)
    rw [nthS_out hl]; simp [unI]
theorem unI_a {a b : List Int} {k : Nat} (h : a.length ≤ k) : unI a b k = true := by simp [unI, h]
theorem unI_b {a b : List Int} {k : Nat} (h : b.length ≤ k) : unI a b k = true := by simp [unI, h]
theorem unI_n {a b : List Int} {k : Nat} (h : nth a k ≠ nth b k) : unI a b k = true := by simp [unI, h]
theorem unI_f {a b : List Int} {k : Nat} (h1 : k < a.length) (h2 : k < b.length) (h : nth a k = nth b k) : unI a b k = false := by
  simp [unI, h]; omega

end Go.Proofs.Ytfnnfldfnjnlfah

namespace Go.Proofs.Ytfnnfldfnjnlfah

/-- A change of four bytes; whether one byte is a change; the next change's code, value and size. -/
def lgV (bs : List Int) (t : Nat) : Int := elAt bs (t + 1) * 65536 + elAt bs (t + 2) * 256 + elAt bs (t + 3) - 60000
def sbB (bs : List Int) (t : Nat) : Bool := inB (elAt bs t - 100) (-100) 100
def ch4B (bs : List Int) (t : Nat) : Bool := !inB (lgV bs t) (-100) 100 && inB (lgV bs t) (-60000) 60000
def nxC (bs : List Int) (t : Nat) : Nat := if bs.length ≤ t then 1 else if sbB bs t = true then 0 else if elAt bs t ≠ 255 then 2 else if bs.length < t + 4 then 1 else if ch4B bs t = true then 0 else 2
def nxV (bs : List Int) (t : Nat) : Int := if sbB bs t = true then elAt bs t - 100 else lgV bs t
def nxS (bs : List Int) (t : Nat) : Nat := if sbB bs t = true then 1 else 4
theorem nx_short {bs : List Int} {t : Nat} (h : bs.length ≤ t) : nxC bs t = 1 := by rw [nxC, if_pos h]
theorem nx_small {bs : List Int} {t : Nat} (h : t < bs.length) (hs : sbB bs t = true) : nxC bs t = 0 ∧ nxV bs t = elAt bs t - 100 ∧ nxS bs t = 1 := by
  rw [nxC, if_neg (by omega), if_pos hs, nxV, if_pos hs, nxS, if_pos hs]; exact ⟨rfl, rfl, rfl⟩
theorem nx_byte {bs : List Int} {t : Nat} (h : t < bs.length) (hs : sbB bs t = false) (hb : elAt bs t ≠ 255) : nxC bs t = 2 := by
  rw [nxC, if_neg (by omega), if_neg (by rw [hs]; simp), if_pos hb]
theorem nx_short4 {bs : List Int} {t : Nat} (h : t < bs.length) (hs : sbB bs t = false) (hb : elAt bs t = 255) (h4 : bs.length < t + 4) : nxC bs t = 1 := by
  rw [nxC, if_neg (by omega), if_neg (by rw [hs]; simp), if_neg (by simp [hb]), if_pos h4]
theorem nx_bad {bs : List Int} {t : Nat} (hs : sbB bs t = false) (hb : elAt bs t = 255) (h4 : t + 4 ≤ bs.length) (hl : ch4B bs t = false) : nxC bs t = 2 := by
  rw [nxC, if_neg (by omega), if_neg (by rw [hs]; simp), if_neg (by simp [hb]), if_neg (by omega), if_neg (by rw [hl]; simp)]
theorem nx_long {bs : List Int} {t : Nat} (hs : sbB bs t = false) (hb : elAt bs t = 255) (h4 : t + 4 ≤ bs.length) (hl : ch4B bs t = true) : nxC bs t = 0 ∧ nxV bs t = lgV bs t ∧ nxS bs t = 4 := by
  rw [nxC, if_neg (by omega), if_neg (by rw [hs]; simp), if_neg (by simp [hb]), if_neg (by omega), if_pos hl, nxV, if_neg (by rw [hs]; simp), nxS, if_neg (by rw [hs]; simp)]; exact ⟨rfl, rfl, rfl⟩
theorem nx_well {bs : List Int} {t : Nat} (h : nxC bs t = 0) : t + nxS bs t ≤ bs.length ∧ 1 ≤ nxS bs t ∧ nxS bs t ≤ 4 ∧ -60000 ≤ nxV bs t ∧ nxV bs t ≤ 60000 := by
  unfold nxC at h
  split at h
  · cases h
  · split at h
    · rename_i hs
      have := hs
      simp only [sbB, inB, decide_eq_true_eq] at this
      simp only [nxS, nxV, if_pos hs]; omega
    · split at h
      · cases h
      · split at h
        · cases h
        · split at h
          · rename_i hs _ _ hl
            simp only [ch4B, Bool.and_eq_true, inB, decide_eq_true_eq] at hl
            simp only [nxS, nxV, if_neg hs]; omega
          · cases h
theorem nx_code (bs : List Int) (t : Nat) : nxC bs t = 0 ∨ nxC bs t = 1 ∨ nxC bs t = 2 := by
  unfold nxC; split
  · simp
  · split
    · simp
    · split
      · simp
      · split
        · simp
        · split <;> simp

/-! A row. -/
structure UrS where
  c : Nat
  t : Nat
  z : List Int
def unSt (bs ah : List Int) (k : Nat) (s : UrS) : UrS :=
  if s.c ≠ 0 then s else if nxC bs s.t ≠ 0 then ⟨nxC bs s.t, s.t, s.z⟩ else if inB (nth ah k + nxV bs s.t) (-30000) 30000 = false then ⟨3, s.t, s.z⟩ else ⟨0, s.t + nxS bs s.t, s.z ++ [nth ah k + nxV bs s.t]⟩
def unRow (bs ah : List Int) (t0 : Nat) : Nat → UrS
  | 0 => ⟨0, t0, []⟩
  | k + 1 => unSt bs ah k (unRow bs ah t0 k)
theorem unSt_code {bs ah : List Int} {k t : Nat} {z : List Int} {c : Nat} (h : nxC bs t = c) (hc : c ≠ 0) : unSt bs ah k ⟨0, t, z⟩ = ⟨c, t, z⟩ := by
  subst h; simp only [unSt, ne_eq, not_true_eq_false, if_false, if_pos hc]
theorem unSt_val {bs ah : List Int} {k t : Nat} {z : List Int} (h : nxC bs t = 0) (hv : inB (nth ah k + nxV bs t) (-30000) 30000 = false) : unSt bs ah k ⟨0, t, z⟩ = ⟨3, t, z⟩ := by
  simp [unSt, h, hv]
theorem unSt_yes {bs ah : List Int} {k t : Nat} {z : List Int} (h : nxC bs t = 0) (hv : inB (nth ah k + nxV bs t) (-30000) 30000 = true) : unSt bs ah k ⟨0, t, z⟩ = ⟨0, t + nxS bs t, z ++ [nth ah k + nxV bs t]⟩ := by
  simp [unSt, h, hv]
theorem unRow_stop {bs ah : List Int} {t0 k : Nat} (h : (unRow bs ah t0 k).c ≠ 0) : ∀ n, k ≤ n → unRow bs ah t0 n = unRow bs ah t0 k
  | 0, hn => by obtain rfl : k = 0 := by omega
                rfl
  | n + 1, hn => by
    by_cases e : k = n + 1
    · rw [e]
    · have := unRow_stop h n (by omega)
      rw [unRow, this, unSt, if_pos h]
/-- What a row is that goes on: its length, its place, its values. -/
theorem unRow_ok {bs ah : List Int} {t0 : Nat} (h0 : t0 ≤ bs.length) : ∀ k, (unRow bs ah t0 k).c = 0 → (unRow bs ah t0 k).z.length = k ∧ t0 ≤ (unRow bs ah t0 k).t ∧ (unRow bs ah t0 k).t ≤ bs.length ∧ ∀ x ∈ (unRow bs ah t0 k).z, -30000 ≤ x ∧ x ≤ 30000
  | 0, _ => by simp [unRow, h0]
  | k + 1, h => by
    rw [unRow] at h ⊢
    have ih := unRow_ok (ah := ah) h0 k
    generalize unRow bs ah t0 k = s at h ih ⊢
    unfold unSt at h ⊢
    by_cases hc : s.c ≠ 0
    · rw [if_pos hc] at h; exact absurd h hc
    · rw [if_neg hc] at h ⊢
      have ih := ih (by omega)
      by_cases hn : nxC bs s.t ≠ 0
      · rw [if_pos hn] at h; exact absurd h hn
      · rw [if_neg hn] at h ⊢
        have w := nx_well (show nxC bs s.t = 0 by omega)
        by_cases hv : inB (nth ah k + nxV bs s.t) (-30000) 30000 = false
        · rw [if_pos hv] at h; cases h
        · rw [if_neg hv]
          have hv : inB (nth ah k + nxV bs s.t) (-30000) 30000 = true := by simpa using hv
          simp only [inB, decide_eq_true_eq] at hv
          refine ⟨by simp [ih.1], by show t0 ≤ s.t + _; omega, by show s.t + _ ≤ _; omega, fun x hx => ?_⟩
          rcases List.mem_append.1 hx with hx | hx
          · exact ih.2.2.2 x hx
          · rw [List.mem_singleton] at hx; rw [hx]; exact hv

/-! All rows. -/
structure Ut where
  c : Nat
  t : Nat
  z : List (List Int)
def ahU (wd : Nat) (rows : List (List Int)) : Nat → List Int
  | 0 => List.replicate wd 0
  | i + 1 => nthS rows i
def unRs (bs : List Int) (wd i : Nat) (s : Ut) : Ut :=
  if s.c ≠ 0 then s else if (unRow bs (ahU wd s.z i) s.t wd).c ≠ 0 then ⟨(unRow bs (ahU wd s.z i) s.t wd).c, (unRow bs (ahU wd s.z i) s.t wd).t, s.z⟩ else ⟨0, (unRow bs (ahU wd s.z i) s.t wd).t, s.z ++ [(unRow bs (ahU wd s.z i) s.t wd).z]⟩
def unRec (bs : List Int) (wd : Nat) : Nat → Ut
  | 0 => ⟨0, 2, []⟩
  | i + 1 => unRs bs wd i (unRec bs wd i)
theorem unRec_stop {bs : List Int} {wd k : Nat} (h : (unRec bs wd k).c ≠ 0) : ∀ n, k ≤ n → unRec bs wd n = unRec bs wd k
  | 0, hn => by obtain rfl : k = 0 := by omega
                rfl
  | n + 1, hn => by
    by_cases e : k = n + 1
    · rw [e]
    · have := unRec_stop h n (by omega)
      rw [unRec, this, unRs, if_pos h]
theorem unRec_ok {bs : List Int} {wd : Nat} (h0 : 2 ≤ bs.length) : ∀ k, (unRec bs wd k).c = 0 → (unRec bs wd k).z.length = k ∧ (unRec bs wd k).t ≤ bs.length ∧ ∀ r ∈ (unRec bs wd k).z, r.length = wd ∧ ∀ x ∈ r, -30000 ≤ x ∧ x ≤ 30000
  | 0, _ => by simp [unRec, h0]
  | k + 1, h => by
    rw [unRec] at h ⊢
    have ih := unRec_ok (wd := wd) h0 k
    generalize unRec bs wd k = s at h ih ⊢
    unfold unRs at h ⊢
    by_cases hc : s.c ≠ 0
    · rw [if_pos hc] at h; exact absurd h hc
    · rw [if_neg hc] at h ⊢
      have ih := ih (by omega)
      by_cases hn : (unRow bs (ahU wd s.z k) s.t wd).c ≠ 0
      · rw [if_pos hn] at h; exact absurd h hn
      · rw [if_neg hn]
        have q := unRow_ok (bs := bs) (ah := ahU wd s.z k) ih.2.1 wd (by omega)
        refine ⟨by simp [ih.1], q.2.2.1, fun r hr => ?_⟩
        rcases List.mem_append.1 hr with hr | hr
        · exact ih.2.2 r hr
        · rw [List.mem_singleton] at hr; rw [hr]; exact ⟨q.1, q.2.2.2⟩
theorem unRec_no {bs : List Int} {wd i t : Nat} {z : List (List Int)} (h : unRec bs wd i = ⟨0, t, z⟩) (hc : (unRow bs (ahU wd z i) t wd).c ≠ 0) : unRec bs wd (i + 1) = ⟨(unRow bs (ahU wd z i) t wd).c, (unRow bs (ahU wd z i) t wd).t, z⟩ := by
  rw [unRec, h, unRs, if_neg (by simp), if_pos hc]
theorem unRec_yes {bs : List Int} {wd i t : Nat} {z : List (List Int)} (h : unRec bs wd i = ⟨0, t, z⟩) (hc : (unRow bs (ahU wd z i) t wd).c = 0) : unRec bs wd (i + 1) = ⟨0, (unRow bs (ahU wd z i) t wd).t, z ++ [(unRow bs (ahU wd z i) t wd).z]⟩ := by
  rw [unRec, h, unRs, if_neg (by simp), if_neg (by simp [hc])]

/-! The head, and the answer. -/
def hdC (bs : List Int) : Nat := if bs.length < 1 then 1 else if 8 < elAt bs 0 then 2 else if bs.length < 2 then 1 else if 200 < elAt bs 1 then 2 else if (elAt bs 0 == 0) != (elAt bs 1 == 0) then 2 else 0
def hdA (bs : List Int) : Nat := if 8 < elAt bs 0 then 0 else 1
def hdW (bs : List Int) : Nat := (elAt bs 0).toNat
def hdM (bs : List Int) : Nat := (elAt bs 1).toNat
def unT (bs : List Int) : Ut := unRec bs (hdW bs) (hdM bs)
def unCo (bs : List Int) : Int := if hdC bs ≠ 0 then hdC bs else if (unT bs).c ≠ 0 then (unT bs).c else if (unT bs).t < bs.length then 4 else 0
def unPl (bs : List Int) : Int := if hdC bs = 1 then bs.length else if hdC bs ≠ 0 then hdA bs else if (unT bs).c = 1 then bs.length else if (unT bs).c ≠ 0 then (unT bs).t else if (unT bs).t < bs.length then (unT bs).t else 0
def unLs (bs : List Int) : List (List Int) := if unCo bs = 0 then (unT bs).z else []
theorem un_h1 {bs : List Int} (h : hdC bs = 1) : unCo bs = 1 ∧ unPl bs = bs.length ∧ unLs bs = [] := by
  have a : unCo bs = 1 := by simp [unCo, h]
  exact ⟨a, by simp [unPl, h], by simp [unLs, a]⟩
theorem un_h2 {bs : List Int} (h : hdC bs = 2) : unCo bs = 2 ∧ unPl bs = hdA bs ∧ unLs bs = [] := by
  have a : unCo bs = 2 := by simp [unCo, h]
  exact ⟨a, by simp [unPl, h], by simp [unLs, a]⟩
theorem un_code {bs : List Int} (h : hdC bs = 0) {c t : Nat} {z : List (List Int)} (hr : unT bs = ⟨c, t, z⟩) (hc : c ≠ 0) : unCo bs = c ∧ unPl bs = (if c = 1 then (bs.length : Int) else (t : Int)) ∧ unLs bs = [] := by
  have a : unCo bs = c := by simp [unCo, h, hr, hc]
  refine ⟨a, ?_, ?_⟩
  · simp [unPl, h, hr, hc]
  · rw [unLs, if_neg (by rw [a]; omega)]
theorem un_more {bs : List Int} (h : hdC bs = 0) {t : Nat} {z : List (List Int)} (hr : unT bs = ⟨0, t, z⟩) (ht : t < bs.length) : unCo bs = 4 ∧ unPl bs = t ∧ unLs bs = [] := by
  have a : unCo bs = 4 := by simp [unCo, h, hr, ht]
  refine ⟨a, by simp [unPl, h, hr, ht], by rw [unLs, if_neg (by rw [a]; omega)]⟩
theorem un_well {bs : List Int} (h : hdC bs = 0) {t : Nat} {z : List (List Int)} (hr : unT bs = ⟨0, t, z⟩) (ht : ¬ t < bs.length) : unCo bs = 0 ∧ unPl bs = 0 ∧ unLs bs = z := by
  have a : unCo bs = 0 := by simp [unCo, h, hr, ht]
  refine ⟨a, by simp [unPl, h, hr, ht], by rw [unLs, if_pos a, hr]⟩
theorem hd_ok {bs : List Int} (hb : ∀ i, i < bs.length → 0 ≤ elAt bs i ∧ elAt bs i ≤ 255) (h : hdC bs = 0) : 2 ≤ bs.length ∧ elAt bs 0 = (hdW bs : Int) ∧ elAt bs 1 = (hdM bs : Int) ∧ hdW bs ≤ 8 ∧ hdM bs ≤ 200 ∧ (hdW bs = 0 ↔ hdM bs = 0) := by
  unfold hdC at h
  split at h
  · cases h
  · split at h
    · cases h
    · split at h
      · cases h
      · split at h
        · cases h
        · split at h
          · cases h
          · rename_i a b c d e
            have x := hb 0 (by omega)
            have y := hb 1 (by omega)
            have e2 : (elAt bs 0 == 0) = (elAt bs 1 == 0) := by simpa using e
            refine ⟨by omega, by unfold hdW; omega, by unfold hdM; omega, by unfold hdW; omega, by unfold hdM; omega, ?_⟩
            unfold hdW hdM
            by_cases g : elAt bs 0 = 0
            · have : (elAt bs 1 == 0) = true := by rw [← e2, g]; rfl
              have : elAt bs 1 = 0 := by simpa using this
              omega
            · have : (elAt bs 1 == 0) = false := by rw [← e2]; simpa using g
              have : elAt bs 1 ≠ 0 := by simpa using this
              omega
theorem unLs_fit {bs : List Int} (hb : ∀ i, i < bs.length → 0 ≤ elAt bs i ∧ elAt bs i ≤ 255) : (unLs bs).length ≤ 400 ∧ ∀ r ∈ unLs bs, r.length ≤ 32 := by
  unfold unLs
  split
  · rename_i h
    by_cases hh : hdC bs = 0
    · have k := hd_ok hb hh
      have hc : (unT bs).c = 0 := by
        unfold unCo at h
        rw [if_neg (by simp [hh])] at h
        by_cases g : (unT bs).c ≠ 0
        · rw [if_pos g] at h; omega
        · omega
      have q := unRec_ok (bs := bs) (wd := hdW bs) k.1 (hdM bs) hc
      exact ⟨by rw [show (unT bs).z.length = hdM bs from q.1]; omega, fun r hr => by have := (q.2.2 r hr).1; omega⟩
    · exfalso
      unfold unCo at h
      rw [if_pos hh] at h
      omega
  · simp

end Go.Proofs.Ytfnnfldfnjnlfah

namespace Go.Proofs.Ytfnnfldfnjnlfah

theorem elAt_mid (A C B : List Int) {i : Nat} (h : i < C.length) : elAt (A ++ C ++ B) (A.length + i) = elAt C i := by
  unfold elAt
  rw [List.append_assoc, List.getElem?_append_right (by omega), show A.length + i - A.length = i by omega, List.getElem?_append_left h]
/-- The change that stands at a place is read as itself. -/
theorem nx_at {bs A B : List Int} {c : Int} (hb : bs = A ++ chL c ++ B) (h1 : -60000 ≤ c) (h2 : c ≤ 60000) : nxC bs A.length = 0 ∧ nxV bs A.length = c ∧ nxS bs A.length = (chL c).length := by
  have hl : bs.length = A.length + (chL c).length + B.length := by rw [hb]; simp; omega
  cases e : inB c (-100) 100
  · have e1 := chL_n e
    have l4 : (chL c).length = 4 := by rw [e1]; rfl
    have g0 : elAt bs A.length = 255 := by have := elAt_mid A (chL c) B (i := 0) (by omega); rw [← hb, Nat.add_zero] at this; rw [this, e1]; rfl
    have g1 : elAt bs (A.length + 1) = (c + 60000) / 65536 := by have := elAt_mid A (chL c) B (i := 1) (by omega); rw [← hb] at this; rw [this, e1]; rfl
    have g2 : elAt bs (A.length + 2) = (c + 60000) / 256 % 256 := by have := elAt_mid A (chL c) B (i := 2) (by omega); rw [← hb] at this; rw [this, e1]; rfl
    have g3 : elAt bs (A.length + 3) = (c + 60000) % 256 := by have := elAt_mid A (chL c) B (i := 3) (by omega); rw [← hb] at this; rw [this, e1]; rfl
    have hv : lgV bs A.length = c := by rw [lgV, g1, g2, g3]; omega
    have hs : sbB bs A.length = false := by rw [sbB, g0]; rfl
    have h4 : ch4B bs A.length = true := by rw [ch4B, hv, e]; simp [inB]; omega
    have := nx_long hs g0 (by omega) h4
    exact ⟨this.1, by rw [this.2.1, hv], by rw [this.2.2, l4]⟩
  · have e1 := chL_y e
    have l1 : (chL c).length = 1 := by rw [e1]; rfl
    have g0 : elAt bs A.length = c + 100 := by have := elAt_mid A (chL c) B (i := 0) (by omega); rw [← hb, Nat.add_zero] at this; rw [this, e1]; rfl
    have hs : sbB bs A.length = true := by rw [sbB, g0, show c + 100 - 100 = c by omega]; exact e
    have := nx_small (by omega) hs
    exact ⟨this.1, by rw [this.2.1, g0]; omega, by rw [this.2.2, l1]⟩
theorem pkJ_pre (z : List (List Int)) (i : Nat) {k : Nat} : ∀ {n : Nat}, k ≤ n → ∃ B, pkJ z i n = pkJ z i k ++ B
  | 0, h => by obtain rfl : k = 0 := by omega
               exact ⟨[], by simp⟩
  | n + 1, h => by
    by_cases e : k = n + 1
    · subst e; exact ⟨[], by simp⟩
    · obtain ⟨B, hB⟩ := pkJ_pre z i (k := k) (n := n) (by omega)
      exact ⟨B ++ chL (chC z i n), by rw [pkJ, hB, List.append_assoc]⟩
theorem pkI_pre (z : List (List Int)) {i : Nat} : ∀ {n : Nat}, i ≤ n → ∃ B, pkI z n = pkI z i ++ B
  | 0, h => by obtain rfl : i = 0 := by omega
               exact ⟨[], by simp⟩
  | n + 1, h => by
    by_cases e : i = n + 1
    · subst e; exact ⟨[], by simp⟩
    · obtain ⟨B, hB⟩ := pkI_pre z (i := i) (n := n) (by omega)
      exact ⟨B ++ pkJ z n (wdN z), by rw [pkI, hB, List.append_assoc]⟩
theorem pk_pre (z : List (List Int)) {i k : Nat} (hi : i < z.length) (hk : k < wdN z) : ∃ B, pkF z = pkK z i k ++ chL (chC z i k) ++ B := by
  obtain ⟨B, hB⟩ := pkI_pre z (i := i + 1) (n := z.length) (by omega)
  obtain ⟨C, hC⟩ := pkJ_pre z i (k := k + 1) (n := wdN z) (by omega)
  refine ⟨C ++ B, ?_⟩
  rw [pkF, hB, pkI, hC, pkJ, pkK]
  simp [List.append_assoc]
theorem take_nth {r : List Int} {k : Nat} (h : k < r.length) : r.take (k + 1) = r.take k ++ [nth r k] := by
  rw [List.take_succ_eq_append_getElem h]; simp [nth, h]
theorem take_nthS {z : List (List Int)} {k : Nat} (h : k < z.length) : z.take (k + 1) = z.take k ++ [nthS z k] := by
  rw [List.take_succ_eq_append_getElem h]; simp [nthS, h]
theorem rt_row {z : List (List Int)} (h : rcB z = true) {i : Nat} (hi : i < z.length) : ∀ k, k ≤ wdN z → unRow (pkF z) (ahL z i) (pkI z i).length k = ⟨0, (pkK z i k).length, (nthS z i).take k⟩
  | 0, _ => by rw [unRow, pkK_zero]; simp
  | k + 1, hk => by
    have ih := rt_row h hi k (by omega)
    have hc := chC_in h hi (k := k) (by omega)
    obtain ⟨B, hB⟩ := pk_pre z hi (k := k) (by omega)
    have q := nx_at hB hc.1 hc.2
    have hv : nth (ahL z i) k + nxV (pkF z) (pkK z i k).length = nth (nthS z i) k := by rw [q.2.1, chC]; omega
    have hr := row_in h hi (k := k) (by omega)
    rw [unRow, ih, unSt_yes q.1 (by rw [hv]; simp [inB]; omega), hv, q.2.2, pkK_succ, List.length_append, take_nth (by rw [((rcB_facts h).2 i hi).1]; exact hk)]
theorem ahU_take {z : List (List Int)} {i : Nat} (hi : i < z.length) : ahU (wdN z) (z.take i) i = ahL z i := by
  cases i with
  | zero => rfl
  | succ j => simp [ahU, ahL, nthS]
theorem rt_rec {z : List (List Int)} (h : rcB z = true) : ∀ i, i ≤ z.length → unRec (pkF z) (wdN z) i = ⟨0, (pkI z i).length, z.take i⟩
  | 0, _ => by simp [unRec, pkI]
  | i + 1, hi => by
    have ih := rt_rec h i (by omega)
    have q := rt_row h (show i < z.length by omega) (wdN z) (Nat.le_refl _)
    have e := ahU_take (z := z) (show i < z.length by omega)
    have hl : (nthS z i).take (wdN z) = nthS z i := List.take_of_length_le (by rw [((rcB_facts h).2 i (by omega)).1]; exact Nat.le_refl _)
    rw [unRec_yes ih (by rw [e, q]), e, q, hl, pkK_row, take_nthS (by omega)]
theorem pkF_head (z : List (List Int)) : ∃ B, pkF z = (wdN z : Int) :: (z.length : Int) :: B := by
  obtain ⟨B, hB⟩ := pkI_pre z (i := 0) (n := z.length) (by omega)
  exact ⟨B, by rw [pkF, hB]; rfl⟩
/-- Read again: the code is 0, the place 0, the rows the record's. -/
theorem rt_all {z : List (List Int)} (h : rcB z = true) : unCo (pkF z) = 0 ∧ unPl (pkF z) = 0 ∧ unLs (pkF z) = z := by
  obtain ⟨B, hB⟩ := pkF_head z
  have g0 : elAt (pkF z) 0 = (wdN z : Int) := by rw [hB]; rfl
  have g1 : elAt (pkF z) 1 = (z.length : Int) := by rw [hB]; rfl
  have gl : 2 ≤ (pkF z).length := by rw [hB]; simp
  have w8 := wdN_le h
  have l2 := (rcB_facts h).1
  have hw : (wdN z = 0 ↔ z.length = 0) := by
    constructor
    · intro e
      by_cases h0 : z.length = 0
      · exact h0
      · have := ((rcB_facts h).2 0 (by omega)).2.1
        unfold wdN at e; omega
    · exact wdN_nil
  have hd : hdC (pkF z) = 0 := by
    have e : (((wdN z : Int) == 0) != ((z.length : Int) == 0)) = false := by
      by_cases h0 : z.length = 0
      · rw [hw.2 h0, h0]; rfl
      · have a : ((wdN z : Int) == 0) = false := by rw [beq_eq_false_iff_ne]; intro e; exact h0 (hw.1 (by omega))
        have b : ((z.length : Int) == 0) = false := by rw [beq_eq_false_iff_ne]; omega
        rw [a, b]; rfl
    rw [hdC, g0, g1, e, if_neg (by omega), if_neg (by omega), if_neg (by omega), if_neg (by omega), if_neg (by simp)]
  have ht : unT (pkF z) = ⟨0, (pkF z).length, z⟩ := by
    rw [unT, hdW, hdM, g0, g1, Int.toNat_natCast, Int.toNat_natCast, rt_rec h _ (Nat.le_refl _), List.take_length, pkF]
  exact un_well hd ht (by omega)

end Go.Proofs.Ytfnnfldfnjnlfah

namespace Go.Proofs.Ytfnnfldfnjnlfah
open Go Go.RowKit

section
variable {P : Program} {ops : Array Oper} {Q : Exit → Act → List Frame → World → Prop} {i : Nat} {rest : List Nat} {a : Act} {cs cs' : List Frame} {w w' : World} {o : Oper} {v : Value}
theorem opsS_value (ho : ops[i]? = some o) (hw : Region.wanted o (yielded ops a.tmps) = true) (hr : (execOp a.eval o).run P w = .ok (.value v) w') (h : wpOpsS P ops Q rest (a.put o.dst v) cs w') : wpOpsS P ops Q (i :: rest) a cs w := by
  simp only [wpOpsS, ho, hw, if_true, hr]; exact h
theorem opsS_skip (ho : ops[i]? = some o) (hw : Region.wanted o (yielded ops a.tmps) = true) (hr : (execOp a.eval o).run P w = .ok .skip w') (h : wpOpsS P ops Q rest (a.put o.dst undef) cs w') : wpOpsS P ops Q (i :: rest) a cs w := by
  simp only [wpOpsS, ho, hw, if_true, hr]; exact h
theorem opsS_rec (ho : ops[i]? = some o) (hw : Region.wanted o (yielded ops a.tmps) = true) (hr : (execOp a.eval o).run P w = .ok .recover w') (hc : recoverD cs = some (v, cs')) (h : wpOpsS P ops Q rest (a.put o.dst v) cs' w') : wpOpsS P ops Q (i :: rest) a cs w := by
  simp only [wpOpsS, ho, hw, if_true, hr, hc]; exact h
theorem opsS_none (ho : ops[i]? = some o) (hw : Region.wanted o (yielded ops a.tmps) = true) (hr : (execOp a.eval o).run P w = .ok .recover w') (hc : recoverD cs = none) (h : wpOpsS P ops Q rest (a.put o.dst .nilIface) cs w') : wpOpsS P ops Q (i :: rest) a cs w := by
  simp only [wpOpsS, ho, hw, if_true, hr, hc]; exact h
end
theorem recD_yes {c : Frame} {cs : List Frame} {v : Value} (h : c.mode = .panicking ({ v := v, recovered := false } :: [])) : recoverD (c :: cs) = some (v, { c with mode := .panicking ({ v := v, recovered := true } :: []) } :: cs) := by
  simp [recoverD, h]
theorem recD_no {c : Frame} {cs : List Frame} (h : c.mode = .returning) : recoverD (c :: cs) = none := by
  simp [recoverD, h]

end Go.Proofs.Ytfnnfldfnjnlfah
