/-
  The law's marks of a list of rows, and what it finds of them. At lists of at most 1000 rows of at most 32 numbers; only the list's own memory is written.
-/
import Derived.Test.YthdnokilfmbgobdRrOwn
namespace Go.Proofs.Ythdnokilfmbgobd
open Go Go.RowKit

/-- The first k lengths together; the mark at a row. -/
def totR (us : List Rx) : Nat → Nat
  | 0 => 0
  | k + 1 => totR us k + (elAt us k).zs.length
def kR (us : List Rx) (k0 : Int) (j : Nat) : Int := k0 + (totR us j : Int)
theorem kR_succ (us : List Rx) (k0 : Int) (j : Nat) : kR us k0 (j + 1) = kR us k0 j + ((elAt us j).zs.length : Int) := by
  show k0 + ((totR us j + (elAt us j).zs.length : Nat) : Int) = k0 + (totR us j : Int) + ((elAt us j).zs.length : Int)
  omega
theorem kR_zero (us : List Rx) (k0 : Int) : kR us k0 0 = k0 := by simp [kR, totR]
theorem kR_bd {us : List Rx} {k0 : Int} (hd : ∀ i, i < us.length → (elAt us i).zs.length ≤ 32) : ∀ j, j ≤ us.length → k0 ≤ kR us k0 j ∧ kR us k0 j ≤ k0 + 32 * (j : Int)
  | 0, _ => by rw [kR_zero]; omega
  | j + 1, h => by
    have := kR_bd (k0 := k0) hd j (by omega)
    have := hd j (by omega)
    rw [kR_succ]; omega
theorem kR_le {us : List Rx} {T : List (List Int)} (h : RrFit us T) (k0 : Int) : k0 ≤ kR us k0 T.length ∧ kR us k0 T.length ≤ k0 + 13600 := by
  have := kR_bd (k0 := k0) h.d32 T.length (by rw [h.len]; exact Nat.le_refl _)
  have := h.few
  omega
def mkR (e : Rx) (k : Int) : Rx := { e with zs := markI e.zs k e.n }
/-- After j rounds of the marking. -/
def markRr (us : List Rx) (k0 : Int) : Nat → List Rx
  | 0 => us
  | j + 1 => (markRr us k0 j).set j (mkR (elAt us j) (kR us k0 j))
theorem markRr_len (us : List Rx) (k0 : Int) (j : Nat) : (markRr us k0 j).length = us.length := by
  induction j with
  | zero => rfl
  | succ j ih => simp [markRr, ih]
theorem markRr_at (us : List Rx) (k0 : Int) : ∀ j, j ≤ us.length → ∀ i, elAt (markRr us k0 j) i = if i < j then mkR (elAt us i) (kR us k0 i) else elAt us i
  | 0, _, i => by simp [markRr]
  | j + 1, h, i => by
    rw [markRr, elAt_set _ _ _ _ (by rw [markRr_len]; omega)]
    by_cases e : i = j
    · subst e; simp
    · rw [if_neg e, markRr_at us k0 j (by omega) i]
      by_cases c : i < j
      · rw [if_pos c, if_pos (by omega)]
      · rw [if_neg c, if_neg (by omega)]
theorem OwnRr.mark2 {w w' : World} {base j : Nat} {v : Value} {us : List Rx} {zs : List Int} (h : OwnRr w base v us) (hj : j < us.length) (o : OwnI w' base (rxV (elAt us j)) zs) (gr : w.grownBy w' (rxV (elAt us j)).ownBlock) :
    OwnRr w' base v (us.set j { elAt us j with zs := zs }) := by
  have ev : ∀ i, rxV (elAt (us.set j { elAt us j with zs := zs }) i) = rxV (elAt us i) := fun i => by
    rw [elAt_set _ _ _ _ hj]
    split
    · rename_i e; subst e; rfl
    · rfl
  refine ⟨?_, fun i hi => ?_, fun i hi q hq => ?_, fun i i2 hij hi2 q hq => ?_⟩
  · have o2 := h.out.far gr (fun q hq e => h.apt j hj q e.symm hq)
    obtain ⟨xs, h1, h2⟩ := o2.own
    refine ⟨⟨xs, by rw [List.length_set]; exact h1, fun i hi p hp => ?_⟩⟩
    rw [List.length_set] at hi
    have := h2 i hi p hp
    rw [this]
    show some (rxV _) = some (rxV _)
    rw [ev]
  · rw [List.length_set] at hi
    rw [ev]
    by_cases e : i = j
    · subst e
      rw [elAt_set _ _ _ _ hj, if_pos rfl]; exact o
    · rw [elAt_set _ _ _ _ hj, if_neg e]
      refine (h.dat i hi).far gr (fun q hq e2 => ?_)
      rcases Nat.lt_or_gt_of_ne e with c | c
      · exact h.par i j c hj q hq e2.symm
      · exact h.par j i c hi q e2.symm hq
  · rw [List.length_set] at hi
    rw [ev] at hq
    exact h.apt i hi q hq
  · rw [List.length_set] at hi2
    rw [ev] at hq ⊢
    exact h.par i i2 hij hi2 q hq

set_option maxRecDepth 20000 in
set_option maxHeartbeats 1000000 in
theorem markIntSSR_own (base g len c : Nat) (us : List Rx) (k0 : Int) (w : World) (h : OwnRr w base (.slice (some ⟨g, 0, none⟩) len c) us) (hl : us.length = len) (h1 : len ≤ 1000) (hd : ∀ i, i < us.length → (elAt us i).zs.length ≤ 32) (hk0 : 0 ≤ k0) (hk1 : k0 ≤ 100000000) (b u : Nat) (hb : RrLies b u (.slice (some ⟨g, 0, none⟩) len c) us) :
    Calls Try.prog 13 #[.slice (some ⟨g, 0, none⟩) len c, .int .i64 k0] w fun e w' => e = .returned (.int .i64 (kR us k0 len)) ∧ OwnRr w' base (.slice (some ⟨g, 0, none⟩) len c) (markRr us k0 len) ∧ Only b u w w' := by
  subst hl
  have H0 := hide h
  have HD := hide hd
  have HL := hide hb
  clear h hd hb
  go_enter Try.func13, Try.ntmps13
  go_wp2_with fail
  go_loopw [1, 5] (fun kk i wr => ∃ j : Nat, j ≤ us.length ∧ i = .int .i64 j ∧ kk = .int .i64 (kR us k0 j) ∧ Hid (OwnRr wr base (.slice (some ⟨g, 0, none⟩) us.length c) (markRr us k0 j)) ∧ Hid (Only b u w wr)) (fun _ i _ => us.length - (intOf i).toNat)
  case atStart => exact ⟨0, Nat.zero_le _, rfl, by rw [kR_zero], H0, hide (Only.refl _ _ _)⟩
  case round =>
    clear H0
    obtain ⟨j, hj, rfl, rfl, HW, HY⟩ := hrel
    have hkb := kR_bd (k0 := k0) (unhide HD) j hj
    by_cases hlt : j < us.length
    · obtain ⟨K, hK⟩ : ∃ z, kR us k0 j = z := ⟨_, rfl⟩
      rw [hK] at hkb ⊢
      have hel := markRr_at us k0 j hj j
      rw [if_neg (by omega)] at hel
      have hml := markRr_len us k0 j
      have z0 := (unhide HW).out.here hml j hlt 0 (by omega)
      rw [hel, Nat.mul_one, Nat.add_zero] at z0
      have c0 : wr.cell? ⟨g, j, none⟩ = some (.slice (elAt us j).a (elAt us j).n (elAt us j).c) := z0.1
      have hod := (unhide HW).dat j (by rw [hml]; exact hlt)
      rw [hel] at hod
      have HOD : Hid (OwnI wr base (.slice (elAt us j).a (elAt us j).n (elAt us j).c) (elAt us j).zs) := hide hod
      have hnn : (elAt us j).zs.length = (elAt us j).n := (OwnI.row (unhide HOD)).len_eq
      have hdd := (unhide HD) j hlt
      have HNN := hide hnn
      have hn32 : (elAt us j).n ≤ 32 := by omega
      have hi1 : (j : Int) < (us.length : Int) := by omega
      have hi0 : (0 : Int) ≤ (j : Int) := by omega
      have HK := hide hK
      clear z0 hod hel hml hdd hnn hK
      go_wp2_with fail
      refine (markIntS_own base _ _ _ (elAt us j).zs K _ (unhide HOD) (unhide HNN) (by omega) (by omega) (by omega)).mono ?_
      rintro e w' ⟨rfl, o9, gr9⟩
      have NX : Hid (OwnRr w' base (.slice (some ⟨g, 0, none⟩) us.length c) (markRr us k0 (j + 1))) := hide (by
        have hml := markRr_len us k0 j
        have hel := markRr_at us k0 j hj j
        rw [if_neg (by omega)] at hel
        have := (unhide HW).mark2 (j := j) (zs := markI (elAt us j).zs K (elAt us j).n) (by rw [hml]; exact hlt) (by rw [hel]; exact o9) (by rw [hel]; exact gr9)
        rw [hel] at this
        rw [markRr, mkR, unhide HK]
        exact this)
      have NY : Hid (Only b u w w') := hide ((unhide HY).trans (Only.of_row gr9 (fun q hq => (unhide HL).2 j hlt q hq)))
      clear o9 gr9
      go_wp2_with fail
      go_roundw
      case rel => exact ⟨j + 1, by omega, by go_num, by rw [kR_succ, unhide HK, unhide HNN], NX, NY⟩
      case measure => simp [intOf]; omega
    · have hjj : Hid (j = us.length) := hide (by omega)
      have hi1 : ¬ (j : Int) < (us.length : Int) := by omega
      go_wp2_with fail
      go_ret
      exact ⟨ret_int (by rw [unhide hjj]), by have := unhide HW; rw [unhide hjj] at this; exact this, unhide HY⟩

set_option maxRecDepth 20000 in
set_option maxHeartbeats 1000000 in
theorem heldIntSSR_any (base g len c : Nat) (us : List Rx) (k0 : Int) (w : World) (h : OwnRr w base (.slice (some ⟨g, 0, none⟩) len c) (markRr us k0 len)) (hl : us.length = len) (h1 : len ≤ 1000) (hd : ∀ i, i < us.length → (elAt us i).zs.length ≤ 32) (hn : ∀ i, i < us.length → (elAt us i).zs.length = (elAt us i).n) (hk0 : 0 ≤ k0) (hk1 : k0 ≤ 100000000) :
    Calls Try.prog 14 #[.slice (some ⟨g, 0, none⟩) len c, .int .i64 k0] w fun e w' => e = .returned (.int .i64 (kR us k0 len)) ∧ w' = w := by
  subst hl
  have HW := hide h
  have HD := hide hd
  have HNN := hide hn
  clear h hd hn
  go_enter Try.func14, Try.ntmps14
  go_wp2_with fail
  go_loopw [1, 5] (fun kk i wr => ∃ j : Nat, j ≤ us.length ∧ i = .int .i64 j ∧ kk = .int .i64 (kR us k0 j) ∧ wr = w) (fun _ i _ => us.length - (intOf i).toNat)
  case atStart => exact ⟨0, Nat.zero_le _, rfl, by rw [kR_zero], rfl⟩
  case round =>
    obtain ⟨j, hj, rfl, rfl, hwr⟩ := hrel
    subst wr
    have hkb := kR_bd (k0 := k0) (unhide HD) j hj
    by_cases hlt : j < us.length
    · obtain ⟨K, hK⟩ : ∃ z, kR us k0 j = z := ⟨_, rfl⟩
      rw [hK] at hkb ⊢
      have hel := markRr_at us k0 us.length (Nat.le_refl _) j
      rw [if_pos hlt, hK] at hel
      have hml := markRr_len us k0 us.length
      have z0 := (unhide HW).out.here hml j hlt 0 (by omega)
      have zd := (unhide HW).dat j (by omega)
      rw [hel, Nat.mul_one, Nat.add_zero] at z0
      rw [hel] at zd
      have c0 : w.cell? ⟨g, j, none⟩ = some (.slice (elAt us j).a (elAt us j).n (elAt us j).c) := z0.1
      have HOD : Hid (OwnI w base (.slice (elAt us j).a (elAt us j).n (elAt us j).c) (markI (elAt us j).zs K (elAt us j).n)) := hide zd
      have hnn := (unhide HNN) j hlt
      have hdd := (unhide HD) j hlt
      have hn32 : (elAt us j).n ≤ 32 := by omega
      have HN2 := hide hnn
      have hi1 : (j : Int) < (us.length : Int) := by omega
      have hi0 : (0 : Int) ≤ (j : Int) := by omega
      have q2 : ¬ K + ((elAt us j).n : Int) < 0 := by omega
      have HK := hide hK
      clear z0 zd hel hml hnn hdd hK
      go_wp2_with fail
      refine (heldIntS_any base _ _ _ (elAt us j).zs K _ (unhide HOD) (unhide HN2) (by omega) (by omega) (by omega)).mono ?_
      rintro e w' ⟨rfl, hw⟩
      subst w'
      go_wp2_with fail
      go_roundw
      case rel => exact ⟨j + 1, by omega, by go_num, by rw [kR_succ, unhide HK, unhide HN2], by first | rfl | trivial⟩
      case measure => simp [intOf]; omega
    · have hjj : Hid (j = us.length) := hide (by omega)
      have hi1 : ¬ (j : Int) < (us.length : Int) := by omega
      go_wp2_with fail
      go_ret
      exact ⟨ret_int (by rw [unhide hjj]), rfl⟩

end Go.Proofs.Ythdnokilfmbgobd
