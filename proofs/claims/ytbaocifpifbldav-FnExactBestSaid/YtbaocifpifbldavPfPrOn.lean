/-
  The way from a first height that leads through all, in the model.
-/
import Derived.Test.YtbaocifpifbldavPfPro

namespace Go.Proofs.Ytbaocifpifbldav
open Go.RowKit

set_option maxRecDepth 20000 in
set_option maxHeartbeats 1000000 in
theorem specProfile_on (ad : Option Addr) (len cap : Nat) (ps : List Po) (up down first : Int) (w : World) (hr : RowE 3 poC w ad len ps) (q1 : poB ps = true) (q2 : slB up down = true) (q3 : bkB ps up down = true) (q4 : inB first (bkI ps up down 0).a1 (bkI ps up down 0).a2 = true) : Calls Try.prog 18 #[.slice ad len cap, .int .i64 up, .int .i64 down, .int .i64 first] w fun e w' => ∃ a1 c1, e = .returned (.tuple #[.slice a1 (pfL ps up down first).length c1, .bool (pfB ps up down first)]) ∧ OwnI w' w.heap.size (.slice a1 (pfL ps up down first).length c1) (pfL ps up down first) ∧ Below w.heap.size w w' := by
  have hz := hr.len_eq
  subst hz
  have pf := poB_facts q1
  have lb := pf.2.1
  have hb := pf.2.2
  have i0 : (0 : Int) < (ps.length : Int) := by omega
  have HR := hide hr
  rcases hr.open_ with ⟨h0, _⟩ | ⟨bb, off, rfl, _, hcs⟩
  · omega
  have HCS := hide hcs
  have HPF := hide pf.1
  clear hr hcs pf
  go_enter Try.func18, Try.ntmps18
  go_wp2_with (first | (go_at_call 10; refine (specPointsOk_is _ _ _ ps _ (unhide HR) q1).mono ?_; rintro e w1 ⟨rfl, b1⟩; have B1 := hide b1; clear b1) | (go_at_call 37; refine (l13Slopes_is _ _ _ q2).mono ?_; rintro e w' ⟨rfl, hw⟩; subst w') | (go_at_call 41; refine (l13Back_any _ _ _ ps _ _ _ ((unhide HR).below (unhide B1)) q1 q2).mono ?_; rintro e w2 ⟨g, c1, rfl, hO, b2⟩; rw [q3] at hO; have HOB := hide hO; have B2 := hide ((unhide B1).trans (b2.mono (unhide B1).size)); clear b2 hO; rw [q3]; have z1 : w2.cell? ⟨g, 1, none⟩ = some (.int .i64 (bkI ps up down 0).a1) := (by have k := ((unhide HOB rfl).here (bkL_len _ _ _ _) 0 (by omega) 1 (by omega)).1; rw [bkL_done (by omega) (Nat.le_refl _)] at k; simpa [poC] using k); have z2 : w2.cell? ⟨g, 2, none⟩ = some (.int .i64 (bkI ps up down 0).a2) := (by have k := ((unhide HOB rfl).here (bkL_len _ _ _ _) 0 (by omega) 2 (by omega)).1; rw [bkL_done (by omega) (Nat.le_refl _)] at k; simpa [poC] using k)))
  go_quiet ((go_at_call 32; exact Calls.quiet_of_same (l1In_is _ _ _ _ q4)))
  obtain ⟨w3, hw3⟩ : ∃ W, W = w2.drewN nq := ⟨_, rfl⟩
  have B3 : Hid (Below w.heap.size w w3) := hide (by rw [hw3]; exact (unhide B2).trans (bel0d' nq))
  have BB3 : Hid (Below w2.heap.size w2 w3) := hide (by rw [hw3]; exact bel0d nq)
  have HS3 : Hid (w2.heap.size = w3.heap.size) := hide (by rw [hw3]; rfl)
  rw [← hw3]
  clear hw3 z1 z2
  have gl := ((unhide HOB trivial).lies g rfl).2
  have bf := prA_bd q1 q2 q3 q4
  have HBF := hide bf
  have hf0 := bf 0 (by omega)
  have KJ : Hid (PrW w (w3.alloc (Obj.cells #[.int .i64 first] 3)) ps up down g c1 w3.heap.size w3.heap.size 1 1 (prL ps up down first 1)) := hide (by
    have hf1 : 0 ≤ first ∧ first ≤ 100000 := hf0
    have h3 : w2.heap.size = w3.heap.size := (unhide HS3)
    exact ⟨(((unhide HOB trivial).below (unhide BB3)).below (bel1 _)).mono (unhide B1).size, ownI_unit first (Nat.le_refl _) ⟨by omega, by omega⟩, rfl, by omega, (unhide B3).alloc (unhide B3).size _, by simp, (unhide B3).size⟩)
  have su : (0 ≤ up ∧ up ≤ 1000) ∧ (0 ≤ down ∧ down ≤ 1000) := by
    have h : (inB up 0 1000 && inB down 0 1000) = true := q2
    simp only [Bool.and_eq_true] at h
    exact ⟨in_facts h.1, in_facts h.2⟩
  obtain ⟨⟨u0, u1⟩, v0, v1⟩ := su
  have EB : Hid (pfB ps up down first = true) := hide (by simp [pfB, q1, q2, q3, q4])
  have EL : Hid (pfL ps up down first = prL ps up down first ps.length) := hide (by simp [pfL, unhide EB])
  have HBK : Hid (∀ i, i < ps.length → ¬ (bkI ps up down i).a2 < (bkI ps up down i).a1) := hide (of_decide_eq_true q3)
  clear hf0 bf gl HOB
  go_wp2_with fail
  go_loopw [12, 13] (fun s12 s13 wr => ∃ (i g2 cp : Nat), 1 ≤ i ∧ i ≤ ps.length ∧ s12 = .slice (some ⟨g2, 0, none⟩) i cp ∧ s13 = .int .i64 (i : Int) ∧ Hid (PrW w wr ps up down g c1 w3.heap.size g2 i cp (prL ps up down first i))) (fun _ s13 _ => ps.length - (intOf s13).toNat)
  case atStart => exact ⟨1, _, 1, Nat.le_refl _, by omega, rfl, rfl, KJ⟩
  case round =>
    obtain ⟨i, g2, cp, hi1, hi2, rfl, rfl, HK⟩ := hrel
    clear KJ
    by_cases hlt : i < ps.length
    · obtain ⟨j, hj⟩ : ∃ j, i = j + 1 := ⟨i - 1, by omega⟩
      have hsub : (i : Int) - 1 = (j : Int) := by omega
      have hwr : IntKind.i64.wrap (j : Int) = (j : Int) := by rw [IntKind.wrap_i64]; omega
      have hj0 : (0 : Int) ≤ (j : Int) := by omega
      have hj1 : (j : Int) < (ps.length : Int) := by omega
      have hj2 : (j : Int) < (i : Int) := by omega
      have n1 : (0 : Int) ≤ (i : Int) := by omega
      have n2 : (i : Int) < (ps.length : Int) := by omega
      have hcs := unhide HCS
      have bw := (unhide HK).bel
      have e0 := hcs i hlt 0 (by omega)
      have e1 := hcs j (by omega) 0 (by omega)
      have ci : wr.cell? ⟨bb, off + i * 3, none⟩ = some (.int .i64 (elAt ps i).a0) := (bw.cell (block_lt_of_cell e0)).trans e0
      have cj : wr.cell? ⟨bb, off + j * 3, none⟩ = some (.int .i64 (elAt ps j).a0) := (bw.cell (block_lt_of_cell e1)).trans e1
      have pi := poAt_facts (unhide HPF i hlt)
      have pj := poAt_facts (unhide HPF j (by omega))
      have hpr : elAt ps (i - 1) = elAt ps j := by rw [hj]; rfl
      rw [hpr] at pi
      have bin := bkI_in (ps := ps) (up := up) (down := down) hlt
      have bok := unhide HBK i hlt
      have bj := unhide HBF j (by omega)
      have hnx : prA ps up down first i = max (max (bkI ps up down i).a1 (prA ps up down first j - down * ((elAt ps i).a0 - (elAt ps j).a0))) (min (min (bkI ps up down i).a2 (prA ps up down first j + up * ((elAt ps i).a0 - (elAt ps j).a0))) (prA ps up down first j)) := by subst hj; rfl
      have bi := unhide HBF i hlt
      obtain ⟨bi', hbi⟩ : ∃ r, bkI ps up down i = r := ⟨_, rfl⟩
      obtain ⟨z, hz⟩ : ∃ r, prA ps up down first j = r := ⟨_, rfl⟩
      obtain ⟨dd, hdd⟩ : ∃ dd, (elAt ps i).a0 - (elAt ps j).a0 = dd := ⟨_, rfl⟩
      rw [hbi, hz, hdd] at hnx
      rw [hbi] at bin bok
      rw [hz] at bj
      have d0 : 0 ≤ dd := by omega
      have d1 : dd ≤ 100000 := by omega
      have m1 := mulBd (s := up) (d := dd) (A := 1000) (B := 100000) (by omega) (by omega) (by omega) (by omega) (by omega) (by omega)
      have m2 := mulBd (s := down) (d := dd) (A := 1000) (B := 100000) (by omega) (by omega) (by omega) (by omega) (by omega) (by omega)
      obtain ⟨mu, hmu⟩ : ∃ r, up * dd = r := ⟨_, rfl⟩
      obtain ⟨md, hmd⟩ : ∃ r, down * dd = r := ⟨_, rfl⟩
      rw [hmu] at m1 hnx
      rw [hmd] at m2 hnx
      have mu0 := m1.1
      have mu1 := m1.2
      have md0 := m2.1
      have md1 := m2.2
      obtain ⟨lo, hlo⟩ : ∃ r, max bi'.a1 (z - md) = r := ⟨_, rfl⟩
      obtain ⟨hg, hhg⟩ : ∃ r, min bi'.a2 (z + mu) = r := ⟨_, rfl⟩
      obtain ⟨mn, hmn⟩ : ∃ r, min hg z = r := ⟨_, rfl⟩
      obtain ⟨re, hre⟩ : ∃ r, max lo mn = r := ⟨_, rfl⟩
      rw [hlo, hhg, hmn, hre] at hnx
      rw [hnx] at bi
      have HLO := hide hlo
      have HHG := hide hhg
      have HMN := hide hmn
      have HRE := hide hre
      have HX := hide hnx
      have z0 := bj.1
      have z1 := bj.2
      have re0 := bi.1
      have re1 := bi.2
      have HBI := hide hbi
      have HZ := hide hz
      have HJ := hide hj
      clear hcs e0 e1 pi pj hpr bok bj hnx hbi hz m1 m2 hlo hhg hmn hre hj bi bw bin
      go_wp2_with fail
      go_quiet (fail)
      obtain ⟨W1, hW1⟩ : ∃ W, W = wr.drewN nq := ⟨_, rfl⟩
      have K1 : Hid (PrW w W1 ps up down g c1 w3.heap.size g2 i cp (prL ps up down first i)) := hide (by rw [hW1]; exact (unhide HK).below (bel0d nq))
      rw [← hW1]
      clear hW1 ci cj
      have y1 : W1.cell? ⟨g, i * 3 + 1, none⟩ = some (.int .i64 bi'.a1) := by have h := (unhide K1).bk hlt 1 (by omega); rw [unhide HBI] at h; exact h
      have y3 : W1.cell? ⟨g2, j, none⟩ = some (.int .i64 z) := by have h := (unhide K1).at_ (j := j) (by omega); rw [prL_at (by omega), unhide HZ] at h; exact h
      go_wp2_with fail
      go_quiet ((go_at_call 38; exact Calls.quiet_of_same (mx_is _ _ _ (unhide HLO))))
      obtain ⟨W2, hW2⟩ : ∃ W, W = W1.drewN nq := ⟨_, rfl⟩
      have K2 : Hid (PrW w W2 ps up down g c1 w3.heap.size g2 i cp (prL ps up down first i)) := hide (by rw [hW2]; exact (unhide K1).below (bel0d nq))
      rw [← hW2]
      clear hW2 y1 y3
      have y2 : W2.cell? ⟨g, i * 3 + 2, none⟩ = some (.int .i64 bi'.a2) := by have h := (unhide K2).bk hlt 2 (by omega); rw [unhide HBI] at h; exact h
      have y3 : W2.cell? ⟨g2, j, none⟩ = some (.int .i64 z) := by have h := (unhide K2).at_ (j := j) (by omega); rw [prL_at (by omega), unhide HZ] at h; exact h
      go_wp2_with fail
      go_quiet ((go_at_call 39; exact Calls.quiet_of_same (mn_is _ _ _ (unhide HHG))))
      obtain ⟨W3, hW3⟩ : ∃ W, W = W2.drewN nq := ⟨_, rfl⟩
      have K3 : Hid (PrW w W3 ps up down g c1 w3.heap.size g2 i cp (prL ps up down first i)) := hide (by rw [hW3]; exact (unhide K2).below (bel0d nq))
      rw [← hW3]
      clear hW3 y2 y3
      have y3 : W3.cell? ⟨g2, j, none⟩ = some (.int .i64 z) := by have h := (unhide K3).at_ (j := j) (by omega); rw [prL_at (by omega), unhide HZ] at h; exact h
      have hsz := (unhide K3).t
      go_wp2_with (first
        | (go_at_call 39; refine (mn_is _ _ _ (unhide HMN)).mono ?_; rintro e w' ⟨rfl, hw⟩; subst w')
        | (go_at_call 38; refine (mx_is _ _ _ (unhide HRE)).mono ?_; rintro e w' ⟨rfl, hw⟩; subst w')
        | (at_builtin; refine wpList_app_int rfl _ _ rfl (n := i) re (unhide K3).o (prL_len _ _ _ _ _) rfl rfl rfl hsz (by omega) ⟨by omega, by omega⟩ ?_; intro g9 c9 w9 o9 gr9; have K9 := hide ((unhide K3).app o9 gr9); clear o9 gr9))
      go_roundw
      case rel => exact ⟨i + 1, g9, c9, by omega, by omega, rfl, by go_num, hide (by rw [prL_next, unhide HX]; exact unhide K9)⟩
      case measure => (simp [intOf]; try omega)
    · obtain rfl : i = ps.length := by omega
      have hge : ¬ ((ps.length : Int) < (ps.length : Int)) := by omega
      go_wp2
      go_ret2
      have ko := (unhide HK).o
      have kb := (unhide HK).bel
      have kB := (unhide HK).hB
      refine ⟨some ⟨g2, 0, none⟩, cp, ?_, ?_, kb⟩
      · rw [unhide EL, unhide EB, prL_len]; try rfl
      · rw [unhide EL, prL_len]; exact ko.mono kB
theorem pfL_small (ps : List Po) (up down first : Int) : (pfL ps up down first).length ≤ 1048576 := by
  unfold pfL
  split
  · rename_i h
    unfold pfB at h
    simp only [Bool.and_eq_true] at h
    have := (poB_facts h.1.1.1).2.2
    rw [prL_len]
    omega
  · simp
theorem specProfile_any (ad : Option Addr) (len cap : Nat) (ps : List Po) (up down first : Int) (w : World) (hr : RowE 3 poC w ad len ps) : Calls Try.prog 18 #[.slice ad len cap, .int .i64 up, .int .i64 down, .int .i64 first] w fun e w' => ∃ a1 c1, e = .returned (.tuple #[.slice a1 (pfL ps up down first).length c1, .bool (pfB ps up down first)]) ∧ OwnI w' w.heap.size (.slice a1 (pfL ps up down first).length c1) (pfL ps up down first) ∧ Below w.heap.size w w' := by
  cases q1 : poB ps with
  | false => exact specProfile_bad1 ad len cap ps up down first w hr q1 (by simp [pfB, q1])
  | true =>
    cases q2 : slB up down with
    | false => exact specProfile_bad2 ad len cap ps up down first w hr q1 q2 (by simp [pfB, q2])
    | true =>
      cases q3 : bkB ps up down with
      | false => exact specProfile_bad3 ad len cap ps up down first w hr q1 q2 q3 (by simp [pfB, q3])
      | true =>
        cases q4 : inB first (bkI ps up down 0).a1 (bkI ps up down 0).a2 with
        | false => exact specProfile_bad4 ad len cap ps up down first w hr q1 q2 q3 q4 (by simp [pfB, q4])
        | true => exact specProfile_on ad len cap ps up down first w hr q1 q2 q3 q4

end Go.Proofs.Ytbaocifpifbldav
