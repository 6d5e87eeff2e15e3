/-
  The best first height, in the program: the plain answer, at every list and slopes; nothing that was there is written.
-/
import Derived.Test.YtbaocifpifbldaePbWay
namespace Go.Proofs.Ytbaocifpifbldae
open Go.RowKit

set_option maxRecDepth 20000 in
set_option maxHeartbeats 1000000 in
theorem implBest_bad (ad : Option Addr) (len cap : Nat) (ps : List Po) (up down : Int) (w : World) (hr : RowE 3 poC w ad len ps) (hv : (poB ps && slB up down) = false ∨ (poB ps = true ∧ slB up down = true ∧ rcK ps up down < ps.length)) (hb : bsI ps up down = 0 ∧ bsB ps up down = false) : Calls Try.prog 21 #[.slice ad len cap, .int .i64 up, .int .i64 down] w fun e w' => e = .returned (.tuple #[.int .i64 (bsI ps up down), .bool (bsB ps up down)]) ∧ Below w.heap.size w w' := by
  rw [hb.1, hb.2]
  clear hb
  have HW : Hid (Calls Try.prog 57 #[.slice ad len cap, .agg #[.int .i64 up, .int .i64 down]] w fun e w' => ∃ a1 c1, e = .returned (.tuple #[.slice a1 0 c1, .bool false]) ∧ Below w.heap.size w w') := hide (by
    rcases hv with hv | ⟨q1, q2, q3⟩
    · exact leading_bad1 ad len cap ps up down w hr hv
    · exact leading_bad2 ad len cap ps up down w hr q1 q2 q3)
  clear hr hv
  go_enter Try.func21, Try.ntmps21
  go_wp2_with (go_at_call 57; refine (unhide HW).mono ?_; rintro e w1 ⟨a1, c1, rfl, b1⟩; have B1 := hide b1; clear b1)
  first | go_ret2 | (go_quiet (fail); go_wp2_with fail; go_ret2)
  first | exact ⟨rfl, unhide B1⟩ | exact ⟨rfl, (unhide B1).trans (bel0d' _)⟩
set_option maxRecDepth 20000 in
set_option maxHeartbeats 1000000 in
theorem implBest_high (ad : Option Addr) (len cap : Nat) (ps : List Po) (up down : Int) (w : World) (hr : RowE 3 poC w ad len ps) (q1 : poB ps = true) (q2 : slB up down = true) (hk : rcK ps up down = ps.length) (q4 : ¬ (elAt ps 0).a2 ≤ 300) (hb : bsI ps up down = 0 ∧ bsB ps up down = false) : Calls Try.prog 21 #[.slice ad len cap, .int .i64 up, .int .i64 down] w fun e w' => e = .returned (.tuple #[.int .i64 (bsI ps up down), .bool (bsB ps up down)]) ∧ Below w.heap.size w w' := by
  rw [hb.1, hb.2]
  clear hb
  have hz := hr.len_eq
  subst hz
  have pf := poB_facts q1
  have i0 : (0 : Int) < (ps.length : Int) := by omega
  have q5 : (300 : Int) < (elAt ps 0).a2 := by omega
  have HW := hide (leading_on ad ps.length cap ps up down w hr q1 q2 hk)
  rcases hr.open_ with ⟨h0, _⟩ | ⟨bb, off, rfl, _, hcs⟩
  · omega
  have p2 := hcs 0 (by omega) 2 (by omega)
  simp only [Nat.zero_mul, Nat.add_zero, poC] at p2
  clear hr hk pf hcs q4
  go_enter Try.func21, Try.ntmps21
  go_wp2_with (go_at_call 57; refine (unhide HW).mono ?_; rintro e w1 ⟨h, c2, rfl, o1, b1⟩; have B1 := hide b1; have y2 := (b1.cell (block_lt_of_cell p2)).trans p2; clear o1 b1)
  first | go_ret2 | (go_quiet (fail); go_wp2_with fail; go_ret2)
  first | exact ⟨rfl, unhide B1⟩ | exact ⟨rfl, (unhide B1).trans (bel0d' _)⟩
set_option maxRecDepth 20000 in
set_option maxHeartbeats 1000000 in
theorem implBest_on (ad : Option Addr) (len cap : Nat) (ps : List Po) (up down : Int) (w : World) (hr : RowE 3 poC w ad len ps) (q1 : poB ps = true) (q2 : slB up down = true) (hk : rcK ps up down = ps.length) (q4 : (elAt ps 0).a2 ≤ 300) : Calls Try.prog 21 #[.slice ad len cap, .int .i64 up, .int .i64 down] w fun e w' => e = .returned (.tuple #[.int .i64 (bsI ps up down), .bool (bsB ps up down)]) ∧ Below w.heap.size w w' := by
  have hz := hr.len_eq
  subst hz
  have pf := poB_facts q1
  have i0 : (0 : Int) < (ps.length : Int) := by omega
  have hb30 := pf.2.2
  have q5 : ¬ (300 : Int) < (elAt ps 0).a2 := by omega
  have q3 : bkB ps up down = true := by rw [bkB_is q1 q2]; exact decide_eq_true hk
  have lf := ld_first q1 q2
  have l1 : (elAt (ldL ps up down) 0).a1 = (bkI ps up down 0).a1 := by rw [ldL_at (by omega)]; exact lf.1
  have l2 : (elAt (ldL ps up down) 0).a2 = (bkI ps up down 0).a2 := by rw [ldL_at (by omega)]; exact lf.2
  have hin := bkI_in (up := up) (down := down) (ps := ps) (i := 0) (by omega)
  have hne := of_decide_eq_true q3 0 (by omega)
  have pa := poAt_facts (pf.1 0 (by omega))
  have HW := hide (leading_on ad ps.length cap ps up down w hr q1 q2 hk)
  have H1 := hide (bsH_first q1 q2 q3)
  have HN : Hid (∀ h, (bkI ps up down 0).a1 ≤ h → h ≤ (bkI ps up down 0).a2 → 0 ≤ (bsH ps up down h).2 → bsH ps up down (h + 1) = if wsA ps up down h < (bsH ps up down h).2 then (h, wsA ps up down h) else bsH ps up down h) := hide (fun h => bsH_next q1 q2 q3)
  have HL := hide (bsH_last q1 q2 q3 q4)
  have HP : Hid (∀ h, (bkI ps up down 0).a1 ≤ h → h ≤ (bkI ps up down 0).a2 → pfB ps up down h = true) := hide (fun h => pfB_in q1 q2 q3)
  have HBD := hide (ldL_bd q1 q2)
  have HWY : Hid (∀ h, (bkI ps up down 0).a1 ≤ h → h ≤ (bkI ps up down 0).a2 → wyL (ldL ps up down) h ps.length = pfL ps up down h) := hide (fun h h1 h2 => wyL_is q1 q2 q3 (by simp [inB, h1, h2]))
  obtain ⟨lo, hlo⟩ : ∃ z, (bkI ps up down 0).a1 = z := ⟨_, rfl⟩
  obtain ⟨hi, hhi⟩ : ∃ z, (bkI ps up down 0).a2 = z := ⟨_, rfl⟩
  rw [hlo] at l1 hin hne H1 HN HP HWY
  rw [hhi] at l2 hin hne HN HL HP HWY
  have z0 : 0 ≤ lo := by omega
  have z1 : lo ≤ hi := by omega
  have z2 : hi ≤ 300 := by omega
  rcases hr.open_ with ⟨h0, _⟩ | ⟨bb, off, rfl, _, hcs⟩
  · omega
  have p2 := hcs 0 (by omega) 2 (by omega)
  simp only [Nat.zero_mul, Nat.add_zero, poC] at p2
  have hlen : ∀ h, lo ≤ h → h ≤ hi → (pfL ps up down h).length = ps.length := fun h h1 h2 => by simp [pfL, unhide HP h h1 h2, prL_len]
  have HSU : Hid (∀ h, lo ≤ h → h ≤ hi → ∀ (W : World) (a : Option Addr) (c : Nat), Row W a ps.length (pfL ps up down h) → Calls Try.prog 58 #[.slice a ps.length c] W fun e w' => e = .returned (.int .i64 (wsA ps up down h)) ∧ Below W.heap.size W w') := hide (fun h h1 h2 W a c hrow => by
    have := sumOfChanges_any a ps.length c (pfL ps up down h) W hrow (by omega) (by omega) (pfL_bd ps up down h)
    unfold wsA
    rw [hlen h h1 h2]
    exact this)
  have HWB : Hid (∀ h, lo ≤ h → h ≤ hi → 0 ≤ wsA ps up down h ∧ wsA ps up down h ≤ 3000000) := hide (fun h h1 h2 => wsA_bd (unhide HP h h1 h2) hb30)
  have EI : Hid (bsI ps up down = (bsH ps up down (hi + 1)).1) := hide (by unfold bsI; rw [unhide HL])
  have EB : Hid (bsB ps up down = decide (0 ≤ (bsH ps up down (hi + 1)).2)) := hide (by unfold bsB; rw [unhide HL])
  have HL1 := hide l1
  have HL2 := hide l2
  clear hr hk pf hcs q4 lf l1 l2 hin hne pa hlo hhi hlen HL HP q3
  go_enter Try.func21, Try.ntmps21
  go_wp2_with (first
    | (go_at_call 57; refine (unhide HW).mono ?_; rintro e w1 ⟨h, c2, rfl, o1, b1⟩; have O1 := hide o1; have B1 := hide b1; have y0 := (b1.cell (block_lt_of_cell p2)).trans p2; have y1 : w1.cell? ⟨h, 1, none⟩ = some (.int .i64 lo) := ((o1.here (ldL_len _ _ _) 0 (by omega) 1 (by omega)).1).trans (by rw [← unhide HL1]; rfl); have y2 : w1.cell? ⟨h, 2, none⟩ = some (.int .i64 hi) := ((o1.here (ldL_len _ _ _) 0 (by omega) 2 (by omega)).1).trans (by rw [← unhide HL2]; rfl); clear o1 b1)
    | (go_at_call 59; refine (wayFrom_any _ _ _ _ (ldL ps up down) _ (unhide O1).row (by omega) (unhide HBD)).mono ?_; rintro e w2 ⟨a2, c3, rfl, o2, b2⟩; have R2 := hide o2.row; have O2 := hide ((unhide O1).below b2); have B2 := hide ((unhide B1).trans (b2.mono (unhide B1).size)); clear o2 b2)
    | (go_at_call 58; refine (unhide HSU lo (Int.le_refl _) z1 _ _ _ (by rw [← unhide HWY lo (Int.le_refl _) z1]; exact unhide R2)).mono ?_; rintro e w3 ⟨rfl, b3⟩; have O3 := hide ((unhide O2).below b3); have B3 := hide ((unhide B2).trans (b3.mono (unhide B2).size)); clear b3))
  have S1 := unhide HWB lo (Int.le_refl _) z1
  clear y0 y1 y2 R2 O1 O2 B1 B2
  go_loopw [10, 11, 12] (fun s10 s11 s12 wr => ∃ (hh b l : Int), lo < hh ∧ hh ≤ hi + 1 ∧ s10 = .int .i64 b ∧ s11 = .int .i64 l ∧ s12 = .int .i64 hh ∧ Hid (bsH ps up down hh = (b, l)) ∧ (0 ≤ l ∧ l ≤ 3000000) ∧ Hid (OwnE 3 poC wr w.heap.size 53 (.slice (some ⟨h, 0, none⟩) ps.length c2) (ldL ps up down)) ∧ Hid (Below w.heap.size w wr)) (fun _ _ s12 _ => (hi + 1 - intOf s12).toNat)
  case atStart => exact ⟨lo + 1, lo, wsA ps up down lo, by omega, by omega, rfl, rfl, rfl, H1, S1, O3, B3⟩
  case round =>
    obtain ⟨hh, b, l, g1, g2, rfl, rfl, rfl, HH, gl, HO, HB⟩ := hrel
    clear O3 B3 S1
    have y2 : wr.cell? ⟨h, 2, none⟩ = some (.int .i64 hi) := (((unhide HO).here (ldL_len _ _ _) 0 (by omega) 2 (by omega)).1).trans (by rw [← unhide HL2]; rfl)
    by_cases hlt : hh ≤ hi
    · have g3 : lo ≤ hh := by omega
      have sb := unhide HWB hh g3 hlt
      have HX : Hid (bsH ps up down (hh + 1) = if wsA ps up down hh < l then (hh, wsA ps up down hh) else (b, l)) := hide (by
        have := unhide HN hh g3 hlt (by rw [unhide HH]; exact gl.1)
        rw [this, unhide HH])
      obtain ⟨S, hS⟩ : ∃ S, wsA ps up down hh = S := ⟨_, rfl⟩
      have HC : Hid (∀ (W : World) (a : Option Addr) (c : Nat), Row W a ps.length (wyL (ldL ps up down) hh ps.length) → Calls Try.prog 58 #[.slice a ps.length c] W fun e w' => e = .returned (.int .i64 S) ∧ Below W.heap.size W w') := hide (fun W a c hrow => by
        rw [← hS]
        exact unhide HSU hh g3 hlt W a c (by rw [← unhide HWY hh g3 hlt]; exact hrow))
      rw [hS] at sb HX
      clear hS
      by_cases hc : S < l
      · have HX2 : Hid (bsH ps up down (hh + 1) = (hh, S)) := hide (by rw [unhide HX, if_pos hc])
        clear HX
        go_wp2_with (first
          | (go_at_call 59; refine (wayFrom_any _ _ _ _ (ldL ps up down) _ (unhide HO).row (by omega) (unhide HBD)).mono ?_; rintro e w2 ⟨a2, c3, rfl, o2, b2⟩; have R2 := hide o2.row; have O2 := hide ((unhide HO).below b2); have B2 := hide ((unhide HB).trans (b2.mono (unhide HB).size)); clear o2 b2)
          | (go_at_call 58; refine (unhide HC _ _ _ (unhide R2)).mono ?_; rintro e w3 ⟨rfl, b3⟩; have O3 := hide ((unhide O2).below b3); have B3 := hide ((unhide B2).trans (b3.mono (unhide B2).size)); clear b3))
        go_roundw
        case rel => exact ⟨hh + 1, hh, S, by omega, by omega, rfl, rfl, by go_num, HX2, by omega, O3, B3⟩
        case measure => simp [intOf]; omega
      · have HX2 : Hid (bsH ps up down (hh + 1) = (b, l)) := hide (by rw [unhide HX, if_neg hc])
        clear HX
        go_wp2_with (first
          | (go_at_call 59; refine (wayFrom_any _ _ _ _ (ldL ps up down) _ (unhide HO).row (by omega) (unhide HBD)).mono ?_; rintro e w2 ⟨a2, c3, rfl, o2, b2⟩; have R2 := hide o2.row; have O2 := hide ((unhide HO).below b2); have B2 := hide ((unhide HB).trans (b2.mono (unhide HB).size)); clear o2 b2)
          | (go_at_call 58; refine (unhide HC _ _ _ (unhide R2)).mono ?_; rintro e w3 ⟨rfl, b3⟩; have O3 := hide ((unhide O2).below b3); have B3 := hide ((unhide B2).trans (b3.mono (unhide B2).size)); clear b3))
        go_roundw
        case rel => exact ⟨hh + 1, b, l, by omega, by omega, rfl, rfl, by go_num, HX2, gl, O3, B3⟩
        case measure => simp [intOf]; omega
    · have he : hh = hi + 1 := by omega
      have HI := hide he
      clear he
      go_wp2_with fail
      go_ret2
      refine ⟨?_, unhide HB⟩
      have e := unhide HH
      rw [unhide HI] at e
      rw [unhide EI, unhide EB, e, decide_eq_true gl.1]
      try rfl
theorem implBest_any (ad : Option Addr) (len cap : Nat) (ps : List Po) (up down : Int) (w : World) (hr : RowE 3 poC w ad len ps) : Calls Try.prog 21 #[.slice ad len cap, .int .i64 up, .int .i64 down] w fun e w' => e = .returned (.tuple #[.int .i64 (bsI ps up down), .bool (bsB ps up down)]) ∧ Below w.heap.size w w' := by
  cases q1 : poB ps with
  | false => exact implBest_bad ad len cap ps up down w hr (.inl (by rw [q1]; rfl)) (bs_no (by rw [q1]; rfl))
  | true =>
    cases q2 : slB up down with
    | false => exact implBest_bad ad len cap ps up down w hr (.inl (by rw [q2, Bool.and_false])) (bs_no (by rw [q2]; simp))
    | true =>
      by_cases q3 : rcK ps up down = ps.length
      · by_cases q4 : (elAt ps 0).a2 ≤ 300
        · exact implBest_on ad len cap ps up down w hr q1 q2 q3 q4
        · exact implBest_high ad len cap ps up down w hr q1 q2 q3 q4 (bs_no (by simp [q4]))
      · have qb : bkB ps up down = false := by rw [bkB_is q1 q2]; exact decide_eq_false q3
        have := rcK_le ps up down
        exact implBest_bad ad len cap ps up down w hr (.inr ⟨q1, q2, by omega⟩) (bs_no (by simp [qb]))

end Go.Proofs.Ytbaocifpifbldae
