/-
  The law's marks of a list of words, and what it finds of them. At lists of at most 1000 words of at most 32 bytes; only the list's own memory is written.
-/
import Derived.Test.YtnhcmokkankcmayWxOwn
namespace Go.Proofs.Ytnhcmokkankcmay
open Go Go.RowKit

/-- The first k lengths together; the mark at a word. -/
def totW (ws : List Wx) : Nat → Nat
  | 0 => 0
  | k + 1 => totW ws k + (elAt ws k).d.zs.length
def kA (ws : List Wx) (k0 : Int) (j : Nat) : Int := k0 + 2 * (j : Int) + (totW ws j : Int)
theorem kA_succ (ws : List Wx) (k0 : Int) (j : Nat) : kA ws k0 (j + 1) = kA ws k0 j + 2 + ((elAt ws j).d.zs.length : Int) := by
  show k0 + 2 * ((j + 1 : Nat) : Int) + ((totW ws j + (elAt ws j).d.zs.length : Nat) : Int) = k0 + 2 * (j : Int) + (totW ws j : Int) + 2 + ((elAt ws j).d.zs.length : Int)
  omega
theorem kA_zero (ws : List Wx) (k0 : Int) : kA ws k0 0 = k0 := by simp [kA, totW]
theorem kA_bd {ws : List Wx} {k0 : Int} (hd : ∀ i, i < ws.length → (elAt ws i).d.zs.length ≤ 32) : ∀ j, j ≤ ws.length → k0 ≤ kA ws k0 j ∧ kA ws k0 j ≤ k0 + 34 * (j : Int)
  | 0, _ => by rw [kA_zero]; omega
  | j + 1, h => by
    have := kA_bd (k0 := k0) hd j (by omega)
    have := hd j (by omega)
    rw [kA_succ]; omega
def mkW (e : Wx) (k : Int) : Wx := ⟨k, k + 1, { e.d with zs := markBy e.d.zs (k + 2) e.d.n }⟩
/-- After j rounds of the marking. -/
def markWx (ws : List Wx) (k0 : Int) : Nat → List Wx
  | 0 => ws
  | j + 1 => (markWx ws k0 j).set j (mkW (elAt ws j) (kA ws k0 j))
theorem markWx_len (ws : List Wx) (k0 : Int) (j : Nat) : (markWx ws k0 j).length = ws.length := by
  induction j with
  | zero => rfl
  | succ j ih => simp [markWx, ih]
theorem markWx_at (ws : List Wx) (k0 : Int) : ∀ j, j ≤ ws.length → ∀ i, elAt (markWx ws k0 j) i = if i < j then mkW (elAt ws i) (kA ws k0 i) else elAt ws i
  | 0, _, i => by simp [markWx]
  | j + 1, h, i => by
    rw [markWx, elAt_set _ _ _ _ (by rw [markWx_len]; omega)]
    by_cases e : i = j
    · subst e; simp
    · rw [if_neg e, markWx_at ws k0 j (by omega) i]
      by_cases c : i < j
      · rw [if_pos c, if_pos (by omega)]
      · rw [if_neg c, if_neg (by omega)]
theorem OwnWd.mark1 {w : World} {base g n c j : Nat} {us : List Wx} (h : OwnWd w base (.slice (some ⟨g, 0, none⟩) n c) us) (hn : us.length = n) (hj : j < n) (k m : Int) :
    OwnWd ((w.setCell ⟨g, j * 3, none⟩ (.int .i64 k)).setCell ⟨g, j * 3 + 1, none⟩ (.int .i64 m)) base (.slice (some ⟨g, 0, none⟩) n c) (us.set j ⟨k, m, (elAt us j).d⟩) := by
  have o1 := h.out.setOne hn j hj 0 (by omega) (.int .i64 k) ⟨k, (elAt us j).s, (elAt us j).d⟩ (fun p hp => by match p, hp with | 0, _ => rfl | 1, _ => rfl | 2, _ => rfl)
  have o2 := o1.setMore hn hj 1 (by omega) (.int .i64 m) ⟨k, m, (elAt us j).d⟩ (fun p hp => by match p, hp with | 0, _ => rfl | 1, _ => rfl | 2, _ => rfl)
  have ed : ∀ i, (elAt (us.set j ⟨k, m, (elAt us j).d⟩) i).d = (elAt us i).d := fun i => by
    rw [elAt_set _ _ _ _ (by omega)]
    split
    · rename_i e; subst e; rfl
    · rfl
  refine ⟨o2, fun i hi => ?_, fun i hi q hq => ?_, fun i i2 hij hi2 q hq => ?_⟩
  · rw [List.length_set] at hi
    rw [ed]
    have hne : (slV (elAt us i).d).ownBlock ≠ some g := fun e => h.apt i hi g e rfl
    exact ((h.dat i hi).set_other _ hne).set_other _ hne
  · rw [List.length_set] at hi
    rw [ed] at hq
    exact h.apt i hi q hq
  · rw [List.length_set] at hi2
    rw [ed] at hq ⊢
    exact h.par i i2 hij hi2 q hq
theorem OwnWd.mark2 {w w' : World} {base j : Nat} {v : Value} {us : List Wx} {zs : List Int} (h : OwnWd w base v us) (hj : j < us.length) (o : OwnE 1 byC w' base 5 (slV (elAt us j).d) zs) (gr : w.grownBy w' (slV (elAt us j).d).ownBlock) :
    OwnWd w' base v (us.set j ⟨(elAt us j).l, (elAt us j).s, { (elAt us j).d with zs := zs }⟩) := by
  have ev : ∀ i, slV (elAt (us.set j ⟨(elAt us j).l, (elAt us j).s, { (elAt us j).d with zs := zs }⟩) i).d = slV (elAt us i).d := fun i => by
    rw [elAt_set _ _ _ _ hj]
    split
    · rename_i e; subst e; rfl
    · rfl
  refine ⟨?_, fun i hi => ?_, fun i hi q hq => ?_, fun i i2 hij hi2 q hq => ?_⟩
  · have o2 := h.out.far gr (fun q hq e => h.apt j hj q e.symm hq)
    obtain ⟨xs, h1, h2⟩ := o2.own
    refine ⟨⟨xs, by rw [List.length_set]; exact h1, fun i hi p hp => ?_⟩⟩
    rw [List.length_set] at hi
    have := h2 i hi p hp
    rw [this, elAt_set _ _ _ _ hj]
    split
    · rename_i e; subst e
      match p, hp with
      | 0, _ => rfl
      | 1, _ => rfl
      | 2, _ => rfl
    · rfl
  · rw [List.length_set] at hi
    rw [ev]
    by_cases e : i = j
    · subst e
      rw [elAt_set _ _ _ _ hj, if_pos rfl]; exact o
    · rw [elAt_set _ _ _ _ hj, if_neg e]
      refine (h.dat i hi).far gr (fun q hq e2 => ?_)
      rcases Nat.lt_or_gt_of_ne e with c | c
      · exact h.par i j c hj q hq e2.symm
      · exact h.par j i c hi q e2.symm hq
  · rw [List.length_set] at hi
    rw [ev] at hq
    exact h.apt i hi q hq
  · rw [List.length_set] at hi2
    rw [ev] at hq ⊢
    exact h.par i i2 hij hi2 q hq
theorem grown_two (w : World) (g o1 o2 : Nat) (v1 v2 : Value) : w.grownBy ((w.setCell ⟨g, o1, none⟩ v1).setCell ⟨g, o2, none⟩ v2) (some g) := grown_set (grown_set (grown_refl w (some g)) o1 v1) o2 v2
theorem wd_set {us : List Wx} {j : Nat} {x y : Wx} (hj : j < us.length) (h : (⟨x.l, x.s, { x.d with zs := y.d.zs }⟩ : Wx) = y) : (us.set j x).set j ⟨(elAt (us.set j x) j).l, (elAt (us.set j x) j).s, { (elAt (us.set j x) j).d with zs := y.d.zs }⟩ = us.set j y := by
  rw [elAt_set _ _ _ _ hj, if_pos rfl, h, List.set_set]

set_option maxRecDepth 20000 in
set_option maxHeartbeats 1000000 in
theorem markWord16S_own (base g len c : Nat) (ws : List Wx) (k0 : Int) (w : World) (h : OwnWd w base (.slice (some ⟨g, 0, none⟩) len c) ws) (hl : ws.length = len) (h1 : len ≤ 1000) (hd : ∀ i, i < ws.length → (elAt ws i).d.zs.length ≤ 32) (hk0 : 0 ≤ k0) (hk1 : k0 ≤ 100000000) (b u : Nat) (hb : WxLies b u (.slice (some ⟨g, 0, none⟩) len c) ws) :
    Calls Try.prog 37 #[.slice (some ⟨g, 0, none⟩) len c, .int .i64 k0] w fun e w' => e = .returned (.int .i64 (kA ws k0 len)) ∧ OwnWd w' base (.slice (some ⟨g, 0, none⟩) len c) (markWx ws k0 len) ∧ Only b u w w' := by
  subst hl
  have H0 := hide h
  have HD := hide hd
  have HL := hide hb
  clear h hd hb
  go_enter Try.func37, Try.ntmps37
  go_wp2_with fail
  go_loopw [1, 5] (fun kk i wr => ∃ j : Nat, j ≤ ws.length ∧ i = .int .i64 j ∧ kk = .int .i64 (kA ws k0 j) ∧ Hid (OwnWd wr base (.slice (some ⟨g, 0, none⟩) ws.length c) (markWx ws k0 j)) ∧ Hid (Only b u w wr)) (fun _ i _ => ws.length - (intOf i).toNat)
  case atStart => exact ⟨0, Nat.zero_le _, rfl, by rw [kA_zero], H0, hide (Only.refl _ _ _)⟩
  case round =>
    clear H0
    obtain ⟨j, hj, rfl, rfl, HW, HY⟩ := hrel
    have hkb := kA_bd (k0 := k0) (unhide HD) j hj
    by_cases hlt : j < ws.length
    · obtain ⟨K, hK⟩ : ∃ z, kA ws k0 j = z := ⟨_, rfl⟩
      rw [hK] at hkb ⊢
      have hel := markWx_at ws k0 j hj j
      rw [if_neg (by omega)] at hel
      have hml := markWx_len ws k0 j
      have hm1 := (unhide HW).mark1 hml hlt K (K + 1)
      rw [hel] at hm1
      have hdd := (unhide HD) j hlt
      have z0 := (unhide HW).out.here hml j hlt 0 (by omega)
      have z1 := (unhide HW).out.here hml j hlt 1 (by omega)
      rw [hel] at z0 z1
      have c0 : wr.cell? ⟨g, j * 3, none⟩ = some (.int .i64 (elAt ws j).l) := z0.1
      have f0 : wr.frozen? ⟨g, j * 3, none⟩ = false := z0.2
      have c1 : wr.cell? ⟨g, j * 3 + 1, none⟩ = some (.int .i64 (elAt ws j).s) := z1.1
      have f1 : wr.frozen? ⟨g, j * 3 + 1, none⟩ = false := z1.2
      obtain ⟨V, hV⟩ : ∃ V, V = (wr.setCell ⟨g, j * 3, none⟩ (.int .i64 K)).setCell ⟨g, j * 3 + 1, none⟩ (.int .i64 (K + 1)) := ⟨_, rfl⟩
      have HYV : Hid (Only b u w V) := hide ((unhide HY).trans (by rw [hV]; exact Only.of_row (grown_two ..) (fun q hq => by cases hq; exact (unhide HL).1 g rfl)))
      rw [← hV] at hm1
      have HM1 := hide hm1
      have z2 := hm1.out.here (by simp [hml]) j hlt 2 (by omega)
      rw [elAt_set _ _ _ _ (by omega), if_pos rfl] at z2
      have c2 : V.cell? ⟨g, j * 3 + 2, none⟩ = some (.slice (elAt ws j).d.a (elAt ws j).d.n (elAt ws j).d.c) := z2.1
      rw [hV] at c2
      have hod := hm1.dat j (by simp [hml]; omega)
      rw [elAt_set _ _ _ _ (by omega), if_pos rfl] at hod
      have HOD := hide hod
      have hnn : (elAt ws j).d.zs.length = (elAt ws j).d.n := (OwnE.row (a := (elAt ws j).d.a) (len := (elAt ws j).d.n) (cap := (elAt ws j).d.c) hod).len_eq
      have HNN := hide hnn
      have hn32 : (elAt ws j).d.n ≤ 32 := by omega
      have hi1 : (j : Int) < (ws.length : Int) := by omega
      have hi0 : (0 : Int) ≤ (j : Int) := by omega
      have HVV := hide hV
      have HK := hide hK
      clear hm1 z0 z1 z2 hod hel hml hdd hV hnn hK
      go_wp2_with fail
      rw [← unhide HVV]
      refine (markByteS_any base _ _ _ (elAt ws j).d.zs (K + 1 + 1) _ (unhide HOD) (unhide HNN) (by omega) (by omega) (by omega)).mono ?_
      rintro e w' ⟨rfl, o9, gr9⟩
      have NX : Hid (OwnWd w' base (.slice (some ⟨g, 0, none⟩) ws.length c) (markWx ws k0 (j + 1))) := hide (by
        have hml := markWx_len ws k0 j
        have e1 : elAt ((markWx ws k0 j).set j ⟨K, K + 1, (elAt ws j).d⟩) j = ⟨K, K + 1, (elAt ws j).d⟩ := by rw [elAt_set _ _ _ _ (by omega), if_pos rfl]
        have := (unhide HM1).mark2 (j := j) (zs := markBy (elAt ws j).d.zs (K + 1 + 1) (elAt ws j).d.n) (by simp [hml]; omega) (by rw [e1]; exact o9) (by rw [e1]; exact gr9)
        rw [e1, List.set_set] at this
        rw [markWx, mkW, unhide HK, show K + 2 = K + 1 + 1 by omega]
        exact this)
      have NY : Hid (Only b u w w') := hide ((unhide HYV).trans (Only.of_row gr9 (fun q hq => (unhide HL).2 j hlt q hq)))
      clear o9 gr9
      go_wp2_with fail
      go_roundw
      case rel => exact ⟨j + 1, by omega, by go_num, by rw [kA_succ, unhide HK, unhide HNN]; congr 1; omega, NX, NY⟩
      case measure => simp [intOf]; omega
    · have hjj : Hid (j = ws.length) := hide (by omega)
      have hi1 : ¬ (j : Int) < (ws.length : Int) := by omega
      go_wp2_with fail
      go_ret
      exact ⟨ret_int (by rw [unhide hjj]), by have := unhide HW; rw [unhide hjj] at this; exact this, unhide HY⟩

set_option maxRecDepth 20000 in
set_option maxHeartbeats 1000000 in
theorem heldWord16S_any (base g len c : Nat) (ws : List Wx) (k0 : Int) (w : World) (h : OwnWd w base (.slice (some ⟨g, 0, none⟩) len c) (markWx ws k0 len)) (hl : ws.length = len) (h1 : len ≤ 1000) (hd : ∀ i, i < ws.length → (elAt ws i).d.zs.length ≤ 32) (hn : ∀ i, i < ws.length → (elAt ws i).d.zs.length = (elAt ws i).d.n) (hk0 : 0 ≤ k0) (hk1 : k0 ≤ 100000000) :
    Calls Try.prog 38 #[.slice (some ⟨g, 0, none⟩) len c, .int .i64 k0] w fun e w' => e = .returned (.int .i64 (kA ws k0 len)) ∧ w' = w := by
  subst hl
  have HW := hide h
  have HD := hide hd
  have HNN := hide hn
  clear h hd hn
  go_enter Try.func38, Try.ntmps38
  go_wp2_with fail
  go_loopw [1, 5] (fun kk i wr => ∃ j : Nat, j ≤ ws.length ∧ i = .int .i64 j ∧ kk = .int .i64 (kA ws k0 j) ∧ wr = w) (fun _ i _ => ws.length - (intOf i).toNat)
  case atStart => exact ⟨0, Nat.zero_le _, rfl, by rw [kA_zero], rfl⟩
  case round =>
    obtain ⟨j, hj, rfl, rfl, hwr⟩ := hrel
    subst wr
    have hkb := kA_bd (k0 := k0) (unhide HD) j hj
    by_cases hlt : j < ws.length
    · obtain ⟨K, hK⟩ : ∃ z, kA ws k0 j = z := ⟨_, rfl⟩
      rw [hK] at hkb ⊢
      have hel := markWx_at ws k0 ws.length (Nat.le_refl _) j
      rw [if_pos hlt, hK] at hel
      have hml := markWx_len ws k0 ws.length
      have z0 := (unhide HW).out.here hml j hlt 0 (by omega)
      have z1 := (unhide HW).out.here hml j hlt 1 (by omega)
      have z2 := (unhide HW).out.here hml j hlt 2 (by omega)
      have zd := (unhide HW).dat j (by omega)
      rw [hel] at z0 z1 z2 zd
      have c0 : w.cell? ⟨g, j * 3, none⟩ = some (.int .i64 K) := z0.1
      have c1 : w.cell? ⟨g, j * 3 + 1, none⟩ = some (.int .i64 (K + 1)) := z1.1
      have c2 : w.cell? ⟨g, j * 3 + 2, none⟩ = some (.slice (elAt ws j).d.a (elAt ws j).d.n (elAt ws j).d.c) := z2.1
      have HOD : Hid (OwnE 1 byC w base 5 (.slice (elAt ws j).d.a (elAt ws j).d.n (elAt ws j).d.c) (markBy (elAt ws j).d.zs (K + 1 + 1) (elAt ws j).d.n)) := hide (by rw [show K + 1 + 1 = K + 2 by omega]; exact zd)
      have hnn := (unhide HNN) j hlt
      have hdd := (unhide HD) j hlt
      have hn32 : (elAt ws j).d.n ≤ 32 := by omega
      have HN2 := hide hnn
      have hi1 : (j : Int) < (ws.length : Int) := by omega
      have hi0 : (0 : Int) ≤ (j : Int) := by omega
      have q0 : (K != K) = false := by simp
      have q1 : (K + 1 != K + 1) = false := by simp
      have q2 : ¬ K + 1 + 1 + ((elAt ws j).d.n : Int) < 0 := by omega
      have HK := hide hK
      clear z0 z1 z2 zd hel hml hnn hdd hK
      go_wp2_with fail
      refine (heldByteS_any base _ _ _ (elAt ws j).d.zs (K + 1 + 1) _ (unhide HOD) (unhide HN2) (by omega) (by omega) (by omega)).mono ?_
      rintro e w' ⟨rfl, hw⟩
      subst w'
      go_wp2_with fail
      go_roundw
      case rel => exact ⟨j + 1, by omega, by go_num, by rw [kA_succ, unhide HK, unhide HN2]; congr 1; omega, by first | rfl | trivial⟩
      case measure => simp [intOf]; omega
    · have hjj : Hid (j = ws.length) := hide (by omega)
      have hi1 : ¬ (j : Int) < (ws.length : Int) := by omega
      go_wp2_with fail
      go_ret
      exact ⟨ret_int (by rw [unhide hjj]), rfl⟩

end Go.Proofs.Ytnhcmokkankcmay
