/-
  The program's walk through all points: forth, and back by the calls that were deferred.
-/
import Derived.Test.YtbaocifpifbldaePwBa
namespace Go.Proofs.Ytbaocifpifbldae
open Go.RowKit

/-- What leads on, worked out from place t on for the first K points. -/
def lvL (ps : List Po) (up down : Int) (K t : Nat) : List Po := (List.range ps.length).map fun j => if t ≤ j ∧ j < K then ldI ps up down K j else ⟨0, 0, 0⟩
def zeL (ps : List Po) : List Po := (List.range ps.length).map fun _ => ⟨0, 0, 0⟩
theorem lvL_len (ps : List Po) (up down : Int) (K t : Nat) : (lvL ps up down K t).length = ps.length := by simp [lvL]
theorem lvL_at {ps : List Po} {up down : Int} {K t j : Nat} (h : j < ps.length) : elAt (lvL ps up down K t) j = if t ≤ j ∧ j < K then ldI ps up down K j else ⟨0, 0, 0⟩ := by simp [lvL, elAt, h]
theorem lvL_none {ps : List Po} {up down : Int} {K t : Nat} (h : K ≤ t) : lvL ps up down K t = zeL ps := by
  unfold lvL zeL
  refine List.map_congr_left (fun j _ => ?_)
  rw [if_neg (by omega)]
theorem lvL_set {ps : List Po} {up down : Int} {K t : Nat} (h : t < K) (_hK : K ≤ ps.length) : (lvL ps up down K (t + 1)).set t (ldI ps up down K t) = lvL ps up down K t := by
  refine list_ext (by simp [lvL_len]) (fun j hj => ?_)
  simp only [List.length_set, lvL_len] at hj
  by_cases e : j = t
  · subst e
    rw [lvL_at hj, if_pos ⟨Nat.le_refl _, h⟩]
    simp [elAt, lvL_len, hj]
  · have h1 : elAt ((lvL ps up down K (t + 1)).set t (ldI ps up down K t)) j = elAt (lvL ps up down K (t + 1)) j := by
      simp [elAt, Ne.symm e]
    rw [h1, lvL_at hj, lvL_at hj]
    by_cases h2 : t ≤ j
    · by_cases h3 : j < K
      · rw [if_pos ⟨by omega, h3⟩, if_pos ⟨h2, h3⟩]
      · rw [if_neg (by omega), if_neg (by omega)]
    · rw [if_neg (by omega), if_neg (by omega)]

theorem stepBack_ok (w wr : World) (P : Nat) (ps : List Po) (up down : Int) (ad : Option Addr) (cap g k cp h c2 : Nat) (i : Nat) (K : Wk w wr P ps up down ad cap g k cp h c2 (lvL ps up down k (i + 1))) (q1 : poB ps = true) (q2 : slB up down = true) (hik : i < k) (hkn : k ≤ ps.length) :
    CallsD Try.prog 135 #[.pointer (some ⟨P, 0, none⟩), .int .i64 (i : Int)] .returning wr fun e u' w' => u' = .returning ∧ (e = .returned (.tuple #[]) ∧ Wk w w' P ps up down ad cap g k cp h c2 (lvL ps up down k i)) := by
  rw [← lvL_set hik hkn]
  by_cases hl : k = i + 1
  · have e : ldI ps up down k i = rcA ps up down i := by
      have := ldI_last ps up down (K := k) (by omega)
      rw [show k - 1 = i by omega] at this
      exact this
    rw [e]
    exact stepBack_last w wr P ps up down ad cap g k cp h c2 _ i K q1 q2 hik hkn hl
  · have hn : i + 1 < k := by omega
    have ea : elAt (lvL ps up down k (i + 1)) (i + 1) = ldI ps up down k (i + 1) := by rw [lvL_at (by omega), if_pos ⟨Nat.le_refl _, hn⟩]
    have e : ldI ps up down k i = bkS ps up down i (elAt (lvL ps up down k (i + 1)) (i + 1)) := by
      rw [ldI_next ps up down hn, ea]; rfl
    rw [e]
    exact stepBack_next w wr P ps up down ad cap g k cp h c2 _ i K q1 q2 hik hkn hn (by rw [ea]; exact ldI_bd q1 q2 hkn (k - 1 - (i + 1)) (i + 1) (by omega)) (by rw [ea]; exact ldI_far ps up down hn)
theorem stepForth_ok (w wr : World) (P : Nat) (ps : List Po) (up down : Int) (ad : Option Addr) (cap g i cp h c2 : Nat) (ls : List Po) (K : Wk w wr P ps up down ad cap g i cp h c2 ls) (q1 : poB ps = true) (q2 : slB up down = true) (hlt : i < ps.length) (hbad : ¬ (rcA ps up down i).a2 < (rcA ps up down i).a1) :
    Calls Try.prog 134 #[.pointer (some ⟨P, 0, none⟩), .int .i64 (i : Int)] wr fun e w' => ∃ g' cp', e = .returned (.bool true) ∧ Wk w w' P ps up down ad cap g' (i + 1) cp' h c2 ls := by
  cases i with
  | zero => exact stepForth_first w wr P ps up down ad cap g cp h c2 ls K q1 q2
  | succ i => exact stepForth_more w wr P ps up down ad cap g (i + 1) cp h c2 ls K q1 q2 (by omega) hlt hbad

set_option maxRecDepth 20000 in
set_option maxHeartbeats 1000000 in
theorem pass_end (w wr : World) (P : Nat) (ps : List Po) (up down : Int) (ad : Option Addr) (cap g cp h c2 : Nat) (K : Wk w wr P ps up down ad cap g ps.length cp h c2 (zeL ps)) (hb : ∀ j, j < ps.length → ¬ (rcA ps up down j).a2 < (rcA ps up down j).a1) :
    Calls Try.prog 97 #[.pointer (some ⟨P, 0, none⟩), .int .i64 (ps.length : Int)] wr fun e w' => ∃ g' cp', e = .returned (.tuple #[]) ∧ Wk w w' P ps up down ad cap g' (rcK ps up down) cp' h c2 (lvL ps up down (rcK ps up down) ps.length) := by
  rw [rcK_none hb, lvL_none (Nat.le_refl _)]
  have c2' := K.blk.c 2 (by simp)
  simp only [List.getElem_cons_zero, List.getElem_cons_succ] at c2'
  have HK := hide K
  clear K hb
  go_enter_defers Try.func97, Try.ntmps97
  go_wp2_with fail
  exact ⟨_, results_none rfl _ _ _, g, cp, rfl, unhide HK⟩

set_option maxRecDepth 20000 in
set_option maxHeartbeats 1000000 in
theorem pass_none (w wr : World) (P : Nat) (ps : List Po) (up down : Int) (ad : Option Addr) (cap g i cp h c2 : Nat) (K : Wk w wr P ps up down ad cap g i cp h c2 (zeL ps)) (q1 : poB ps = true) (q2 : slB up down = true) (hlt : i < ps.length) (hb : ∀ j, j < i → ¬ (rcA ps up down j).a2 < (rcA ps up down j).a1) (hbad : (rcA ps up down i).a2 < (rcA ps up down i).a1) :
    Calls Try.prog 97 #[.pointer (some ⟨P, 0, none⟩), .int .i64 (i : Int)] wr fun e w' => ∃ g' cp', e = .returned (.tuple #[]) ∧ Wk w w' P ps up down ad cap g' (rcK ps up down) cp' h c2 (lvL ps up down (rcK ps up down) i) := by
  rw [rcK_here hlt hbad hb, lvL_none (Nat.le_refl _)]
  have c2' := K.blk.c 2 (by simp)
  simp only [List.getElem_cons_zero, List.getElem_cons_succ] at c2'
  have hi0 : 0 < i := by
    rcases Nat.eq_zero_or_pos i with e | e
    · subst e
      have pa := poAt_facts ((poB_facts q1).1 0 hlt)
      have : (elAt ps 0).a2 < (elAt ps 0).a1 := hbad
      omega
    · exact e
  have hne : ((i : Int) == (ps.length : Int)) = false := by simp; omega
  have HS := hide (stepForth_none w wr P ps up down ad cap g i cp h c2 (zeL ps) K q1 q2 hi0 hlt hbad)
  clear K hb
  go_enter_defers Try.func97, Try.ntmps97
  go_wp2_with (go_at_call 134; refine (unhide HS).mono ?_; rintro e w1 ⟨rfl, k1⟩; have K1 := hide k1; clear k1)
  exact ⟨_, results_none rfl _ _ _, g, cp, rfl, unhide K1⟩

set_option maxRecDepth 20000 in
set_option maxHeartbeats 1000000 in
theorem pass_more (w wr : World) (P : Nat) (ps : List Po) (up down : Int) (ad : Option Addr) (cap g i cp h c2 : Nat) (K : Wk w wr P ps up down ad cap g i cp h c2 (zeL ps)) (q1 : poB ps = true) (q2 : slB up down = true) (hlt : i < ps.length) (hbad : ¬ (rcA ps up down i).a2 < (rcA ps up down i).a1) (hk : i < rcK ps up down)
    (ih : ∀ wr g cp, Wk w wr P ps up down ad cap g (i + 1) cp h c2 (zeL ps) → Calls Try.prog 97 #[.pointer (some ⟨P, 0, none⟩), .int .i64 ((i + 1 : Nat) : Int)] wr fun e w' => ∃ g' cp', e = .returned (.tuple #[]) ∧ Wk w w' P ps up down ad cap g' (rcK ps up down) cp' h c2 (lvL ps up down (rcK ps up down) (i + 1))) :
    Calls Try.prog 97 #[.pointer (some ⟨P, 0, none⟩), .int .i64 (i : Int)] wr fun e w' => ∃ g' cp', e = .returned (.tuple #[]) ∧ Wk w w' P ps up down ad cap g' (rcK ps up down) cp' h c2 (lvL ps up down (rcK ps up down) i) := by
  have c2' := K.blk.c 2 (by simp)
  simp only [List.getElem_cons_zero, List.getElem_cons_succ] at c2'
  have hne : ((i : Int) == (ps.length : Int)) = false := by simp; omega
  have hb30 := (poB_facts q1).2.2
  have HS := hide (stepForth_ok w wr P ps up down ad cap g i cp h c2 (zeL ps) K q1 q2 hlt hbad)
  obtain ⟨j, hj⟩ : ∃ j, i + 1 = j := ⟨_, rfl⟩
  have hadd : (i : Int) + 1 = (j : Int) := by omega
  have HIH : Hid (∀ wr g cp, Wk w wr P ps up down ad cap g (i + 1) cp h c2 (zeL ps) → Calls Try.prog 97 #[.pointer (some ⟨P, 0, none⟩), .int .i64 (j : Int)] wr fun e w' => ∃ g' cp', e = .returned (.tuple #[]) ∧ Wk w w' P ps up down ad cap g' (rcK ps up down) cp' h c2 (lvL ps up down (rcK ps up down) (i + 1))) := hide (by rw [← hj]; exact ih)
  have HKL := hide (rcK_le ps up down)
  obtain ⟨KK, hKK⟩ : ∃ KK, rcK ps up down = KK := ⟨_, rfl⟩
  rw [hKK] at HIH HKL hk ⊢
  have HJ := hide hj
  clear K ih hj hKK
  go_enter_defers Try.func97, Try.ntmps97
  go_wp2_with (first | (go_at_call 134; refine (unhide HS).mono ?_; rintro e w1 ⟨g1, cp1, rfl, k1⟩; have K1 := hide k1; clear k1) | (go_at_call 97; refine ((unhide HIH) _ _ _ (unhide K1)).mono ?_; rintro e w2 ⟨g2, cp2, rfl, k2⟩; have K2 := hide k2; clear k2))
  refine leaves_cons (f := 135) (args := #[.pointer (some ⟨P, 0, none⟩), .int .i64 (i : Int)]) (by simp) (by simp [go_sem]) ?_
  refine (stepBack_ok w w2 P ps up down ad cap g2 KK cp2 h c2 i (unhide K2) q1 q2 hk (unhide HKL)).mono ?_
  rintro e u' w3 ⟨rfl, rfl, k3⟩
  exact ⟨_, results_none rfl _ _ _, g2, cp2, rfl, k3⟩

theorem pass_any (w : World) (P : Nat) (ps : List Po) (up down : Int) (ad : Option Addr) (cap h c2 : Nat) (q1 : poB ps = true) (q2 : slB up down = true) : ∀ (m i : Nat), i + m = ps.length → ∀ (wr : World) (g cp : Nat), Wk w wr P ps up down ad cap g i cp h c2 (zeL ps) → (∀ j, j < i → ¬ (rcA ps up down j).a2 < (rcA ps up down j).a1) →
    Calls Try.prog 97 #[.pointer (some ⟨P, 0, none⟩), .int .i64 (i : Int)] wr fun e w' => ∃ g' cp', e = .returned (.tuple #[]) ∧ Wk w w' P ps up down ad cap g' (rcK ps up down) cp' h c2 (lvL ps up down (rcK ps up down) i)
  | 0, i, h0, wr, g, cp, K, hb => by
    obtain rfl : i = ps.length := by omega
    exact pass_end w wr P ps up down ad cap g cp h c2 K hb
  | m + 1, i, h0, wr, g, cp, K, hb => by
    by_cases hbad : (rcA ps up down i).a2 < (rcA ps up down i).a1
    · exact pass_none w wr P ps up down ad cap g i cp h c2 K q1 q2 (by omega) hb hbad
    · have hb2 : ∀ j, j < i + 1 → ¬ (rcA ps up down j).a2 < (rcA ps up down j).a1 := fun j hj => by
        rcases Nat.lt_succ_iff_lt_or_eq.1 hj with h | h
        · exact hb j h
        · subst h; exact hbad
      have hk : i < rcK ps up down := by
        unfold rcK
        cases e : (List.range ps.length).find? fun k => decide ((rcA ps up down k).a2 < (rcA ps up down k).a1) with
        | none => simp; omega
        | some k =>
          rw [List.find?_range_eq_some] at e
          simp only [Option.getD_some]
          rcases Nat.lt_or_ge i k with h | h
          · exact h
          · exact absurd (of_decide_eq_true e.1) (hb2 k (by omega))
      exact pass_more w wr P ps up down ad cap g i cp h c2 K q1 q2 (by omega) hbad hk (fun wr g cp K' => pass_any w P ps up down ad cap h c2 q1 q2 m (i + 1) (by omega) wr g cp K' hb2)

end Go.Proofs.Ytbaocifpifbldae
