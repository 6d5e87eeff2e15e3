/-
  The law FnProfiles returns true at every list of bytes and writes nothing that was there: the walk. No condition.
-/
import Derived.Test.YtbaocifpifbldaeAtFun
import Derived.Test.YtbaocifpifbldaePdFacts
import Derived.Test.YtbaocifpifbldaePbImpl
import Derived.Deep.Cut
import Derived.Deep.CutRange
namespace Go.Proofs.Ytbaocifpifbldae
open Go.RowKit

theorem rowPo_at {w : World} {h n : Nat} {ls : List Po} (hr : RowE 3 poC w (some ⟨h, 0, none⟩) n ls) {i : Nat} (hi : i < n) (q : Nat) (hq : q < 3) : w.cell? ⟨h, i * 3 + q, none⟩ = some (poC (elAt ls i) q) := by
  rcases hr.open_ with ⟨h0, _⟩ | ⟨bb, off, e, _, hcs⟩
  · omega
  · have e1 : h = bb := by simpa using congrArg (fun o => (Option.map Addr.block o)) e
    have e2 : 0 = off := by simpa using congrArg (fun o => (Option.map Addr.off o)) e
    subst e1; subst e2
    have := hcs i hi q hq
    simpa using this
theorem ownI_some {w : World} {base : Nat} {a : Option Addr} {n c : Nat} {zs : List Int} (h : OwnI w base (.slice a n c) zs) (h1 : 1 ≤ n) : ∃ g, a = some ⟨g, 0, none⟩ := by
  rcases h.form with ⟨e, _⟩ | ⟨g, cap', e, _⟩
  · simp only [Value.slice.injEq] at e
    omega
  · simp only [Value.slice.injEq] at e
    exact ⟨g, e.1⟩
theorem rowI_at {w : World} {g n : Nat} {zs : List Int} (hr : Row w (some ⟨g, 0, none⟩) n zs) {i : Nat} (hi : i < n) : w.cell? ⟨g, i, none⟩ = some (.int .i64 (nth zs i)) := by
  rcases hr.open_ with ⟨h0, _⟩ | ⟨bb, off, e, _, hcs⟩
  · omega
  · have e1 : g = bb := by simpa using congrArg (fun o => (Option.map Addr.block o)) e
    have e2 : 0 = off := by simpa using congrArg (fun o => (Option.map Addr.off o)) e
    subst e1; subst e2
    have := hcs i hi
    simpa using this
theorem reach_yes {kI : Int} {K : Nat} (ad : Option Addr) (cap : Nat) (ps : List Po) (up down : Int) (w : World) (hr : RowE 3 poC w ad ps.length ps) (q1 : poB ps = true) (q2 : slB up down = true) (hK : rcK ps up down = K) (hI : (if rcK ps up down < ps.length then (rcK ps up down : Int) else -1) = kI) :
    Calls Try.prog 19 #[.slice ad ps.length cap, .int .i64 up, .int .i64 down] w fun e w' => ∃ g c, e = .returned (.tuple #[.slice (some ⟨g, 0, none⟩) K c, .int .i64 kI, .bool true]) ∧ OwnE 3 poC w' w.heap.size 53 (.slice (some ⟨g, 0, none⟩) K c) (rcL ps up down K) ∧ Below w.heap.size w w' := by
  subst hK
  subst hI
  refine (implReach_any ad ps.length cap ps up down w hr).mono ?_
  rintro e w' ⟨a1, c1, rfl, o, b⟩
  have e1 : rchL ps up down = rcL ps up down (rcK ps up down) := by simp [rchL, q1, q2]
  have e2 : rchB ps up down = true := by simp [rchB, q1, q2]
  have e3 : rchK ps up down = if rcK ps up down < ps.length then (rcK ps up down : Int) else -1 := by simp [rchK, q1, q2]
  have h1 : 1 ≤ rcK ps up down := rcK_ge (poB_facts q1).2.1 (fun j hj => by
    obtain rfl : j = 0 := by omega
    have pa := poAt_facts ((poB_facts q1).1 0 (poB_facts q1).2.1)
    show ¬ (elAt ps 0).a2 < (elAt ps 0).a1
    omega)
  rw [e1, rcL_len] at o
  rw [e1, e2, e3, rcL_len]
  rcases o.form with ⟨_, h0⟩ | ⟨g, cap', e, _⟩
  · have := congrArg List.length h0
    rw [rcL_len] at this
    simp at this
    omega
  · simp only [Value.slice.injEq] at e
    obtain ⟨rfl, _, rfl⟩ := e
    exact ⟨g, c1, rfl, o, b⟩

set_option maxRecDepth 20000 in
set_option maxHeartbeats 1000000 in
theorem lawFnProfiles_big (a : Option Addr) (len cap : Nat) (w : World) (h : (1048576 : Int) < len) :
    Calls Try.prog 5 #[.slice a len cap] w fun e w' => e = .returned (.bool true) ∧ Below w.heap.size w w' := by
  have hd : decide ((1048576 : Int) < len) = true := by simpa using h
  go_enter Try.func5, Try.ntmps5
  go_wp2_with fail
  refine (big_any a len cap _).mono ?_
  rintro e w' ⟨rfl, hw⟩
  subst w'
  rw [hd]
  go_wp2
  go_ret
  exact ⟨rfl, Below.refl _ _⟩

set_option maxRecDepth 20000 in
set_option maxHeartbeats 8000000 in
theorem lawFnProfiles_small (a : Option Addr) (len cap : Nat) (w : World) (h : ¬ (1048576 : Int) < len) (hb : Bytes w a len) (hin : ∀ b off, a = some ⟨b, off, none⟩ → b < w.heap.size) :
    Calls Try.prog 5 #[.slice a len cap] w fun e w' => e = .returned (.bool true) ∧ Below w.heap.size w w' := by
  have hd0 : decide ((1048576 : Int) < len) = false := by simpa using h
  obtain ⟨f, hf, hat⟩ := at_fun a len cap w hb (by omega)
  have HAT := hide hat
  have g1 := hf 1
  have g2 := hf 2
  have HDR := hide (drawPoints_any a len cap w hb hin)
  obtain ⟨up, hup⟩ : ∃ u, (f 1).tmod 8 = u := ⟨_, rfl⟩
  obtain ⟨down, hdown⟩ : ∃ u, (f 2).tmod 8 = u := ⟨_, rfl⟩
  have u0 : 0 ≤ up ∧ up ≤ 7 := by rw [← hup, Int.tmod_eq_emod_of_nonneg (by omega)]; omega
  have v0 : 0 ≤ down ∧ down ≤ 7 := by rw [← hdown, Int.tmod_eq_emod_of_nonneg (by omega)]; omega
  have hup2 : f 1 % 8 = up := by rw [← hup, Int.tmod_eq_emod_of_nonneg (by omega)]
  have hdown2 : f 2 % 8 = down := by rw [← hdown, Int.tmod_eq_emod_of_nonneg (by omega)]
  have s1 : slB up down = true := by simp only [slB, inB, Bool.and_eq_true, decide_eq_true_eq]; omega
  have s2 : slB (up + 1) (down + 2) = true := by simp only [slB, inB, Bool.and_eq_true, decide_eq_true_eq]; omega
  clear hat hf hb h hin
  go_enter Try.func5, Try.ntmps5
  go_wp2_with fail
  refine (big_any a len cap _).mono ?_
  rintro e w' ⟨rfl, hw⟩
  subst w'
  rw [hd0]
  go_wp2_with fail
  refine (unhide HDR).mono ?_
  rintro e w1 ⟨g, n, cp, ps, rfl, r1, q1, o1, b1⟩
  have hz := r1.len_eq
  subst hz
  have R1 := hide r1
  have B1 := hide b1
  have O1 := hide o1
  have pf := poB_facts q1
  have hl1 := pf.2.1
  have hl2 := pf.2.2
  have q4 : (elAt ps 0).a2 ≤ 300 := by have := o1 0 (by omega); omega
  clear r1 b1 o1 pf HDR O1
  have km := rcK_more (up := up) (down := down) (up' := up + 1) (down' := down + 2) q1 (by omega) (by omega)
  have kl := rcK_le ps up down
  have kl' := rcK_le ps (up + 1) (down + 2)
  have HM : Hid (∀ k, k < ps.length → (rcA ps (up + 1) (down + 2) k).a1 ≤ (rcA ps up down k).a1 ∧ (rcA ps up down k).a2 ≤ (rcA ps (up + 1) (down + 2) k).a2) := hide (rcA_more q1 (by omega) (by omega))
  have HOK : Hid (∀ k, k < rcK ps up down → ¬ (rcA ps up down k).a2 < (rcA ps up down k).a1) := hide (fun k hk => rcK_ok hk)
  have HIN : Hid (∀ k, (elAt ps k).a1 ≤ (rcA ps up down k).a1 ∧ (rcA ps up down k).a2 ≤ (elAt ps k).a2) := hide (rcA_le ps up down)
  have HBD : Hid (∀ k, k < ps.length → (0 ≤ (rcA ps up down k).a1 ∧ (rcA ps up down k).a1 ≤ 100000) ∧ (0 ≤ (rcA ps up down k).a2 ∧ (rcA ps up down k).a2 ≤ 100000)) := hide (rcA_bd q1 s1)
  have BY : Hid (rcK ps up down = ps.length → bsB ps up down = true ∧ pfB ps up down (bsI ps up down) = true) := hide (fun e => bs_yes q1 s1 e q4)
  have BN : Hid (rcK ps up down < ps.length → bsB ps up down = false) := hide (fun e => bs_not q1 s1 e)
  have HP : Hid (∀ i, i < ps.length → (0 ≤ (elAt ps i).a0 ∧ (elAt ps i).a0 ≤ 100000) ∧ (0 ≤ (elAt ps i).a1 ∧ (elAt ps i).a1 ≤ (elAt ps i).a2) ∧ (elAt ps i).a2 ≤ 100000 ∧ (i = 0 ∨ (elAt ps (i - 1)).a0 < (elAt ps i).a0)) := hide (fun i hi => poAt_facts ((poB_facts q1).1 i hi))
  obtain ⟨K, hK⟩ : ∃ K, rcK ps up down = K := ⟨_, rfl⟩
  obtain ⟨K', hK'⟩ : ∃ K, rcK ps (up + 1) (down + 2) = K := ⟨_, rfl⟩
  obtain ⟨kI, hkI⟩ : ∃ I, (if rcK ps up down < ps.length then (rcK ps up down : Int) else -1) = I := ⟨_, rfl⟩
  obtain ⟨kI', hkI'⟩ : ∃ I, (if rcK ps (up + 1) (down + 2) < ps.length then (rcK ps (up + 1) (down + 2) : Int) else -1) = I := ⟨_, rfl⟩
  have HR1 : Hid (∀ W, RowE 3 poC W (some ⟨g, 0, none⟩) ps.length ps → Calls Try.prog 19 #[.slice (some ⟨g, 0, none⟩) ps.length cp, .int .i64 up, .int .i64 down] W fun e w' => ∃ g c, e = .returned (.tuple #[.slice (some ⟨g, 0, none⟩) K c, .int .i64 kI, .bool true]) ∧ OwnE 3 poC w' W.heap.size 53 (.slice (some ⟨g, 0, none⟩) K c) (rcL ps up down K) ∧ Below W.heap.size W w') := hide (fun W hr => reach_yes _ cp ps up down W hr q1 s1 hK hkI)
  have HR2 : Hid (∀ W, RowE 3 poC W (some ⟨g, 0, none⟩) ps.length ps → Calls Try.prog 19 #[.slice (some ⟨g, 0, none⟩) ps.length cp, .int .i64 (up + 1), .int .i64 (down + 2)] W fun e w' => ∃ g c, e = .returned (.tuple #[.slice (some ⟨g, 0, none⟩) K' c, .int .i64 kI', .bool true]) ∧ OwnE 3 poC w' W.heap.size 53 (.slice (some ⟨g, 0, none⟩) K' c) (rcL ps (up + 1) (down + 2) K') ∧ Below W.heap.size W w') := hide (fun W hr => reach_yes _ cp ps (up + 1) (down + 2) W hr q1 s2 hK' hkI')
  rw [hK] at km kl hkI HOK BY BN
  rw [hK'] at km kl' hkI'
  have HKI := hide hkI
  have HKI' := hide hkI'
  clear hK hK' hkI hkI' s1 s2
  have cs : (K = ps.length ∧ K' = ps.length ∧ kI = -1 ∧ kI' = -1) ∨ (K < ps.length ∧ K' < ps.length ∧ kI = (K : Int) ∧ kI' = (K' : Int)) ∨ (K < ps.length ∧ K' = ps.length ∧ kI = (K : Int) ∧ kI' = -1) := by
    have h1 := unhide HKI
    have h2 := unhide HKI'
    by_cases c1 : K < ps.length
    · rw [if_pos c1] at h1
      by_cases c2 : K' < ps.length
      · rw [if_pos c2] at h2
        exact .inr (.inl ⟨c1, c2, h1.symm, h2.symm⟩)
      · rw [if_neg c2] at h2
        exact .inr (.inr ⟨c1, by omega, h1.symm, h2.symm⟩)
    · rw [if_neg c1] at h1
      have c2 : ¬ K' < ps.length := by omega
      rw [if_neg c2] at h2
      exact .inl ⟨by omega, by omega, h1.symm, h2.symm⟩
  clear HKI HKI'
  rcases cs with ⟨rfl, rfl, rfl, rfl⟩ | ⟨k1, k2, rfl, rfl⟩ | ⟨k1, rfl, rfl, rfl⟩
  · as_aux_lemma =>
    go_wp2_with (first
      | ((fail_if_success have := A1); go_at_call 13; refine ((unhide HAT) 1 _ rfl (by omega) _ (unhide B1)).mono ?_; rintro e w' ⟨rfl, hw⟩; subst w'; have A1 := True.intro)
      | (go_at_call 13; refine ((unhide HAT) 2 _ rfl (by omega) _ (unhide B1)).mono ?_; rintro e w' ⟨rfl, hw⟩; subst w')
      | ((fail_if_success have := B2); go_at_call 19; refine ((unhide HR1) _ (unhide R1)).mono ?_; rintro e w2 ⟨gc, cc, rfl, o2, b2⟩; have R2 := hide ((unhide R1).below b2); have C2 := hide (o2.mono (base' := w.heap.size) (unhide B1).size); have B2 := hide ((unhide B1).trans (b2.mono (unhide B1).size)); clear o2 b2)
      | ((fail_if_success have := B3); go_at_call 19; refine ((unhide HR2) _ (unhide R2)).mono ?_; rintro e w3 ⟨gm, cm, rfl, o3, b3⟩; have R3 := hide ((unhide R2).below b3); have C3 := hide ((unhide C2).below b3); have M3 := hide (o3.mono (base' := w.heap.size) (unhide B2).size); have B3 := hide ((unhide B2).trans (b3.mono (unhide B2).size)); clear o3 b3)
      | (go_at_call 20; refine (implPointsOk_is _ _ _ ps _ (unhide R3) q1).mono ?_; rintro e w4 ⟨rfl, b4⟩; have R4 := hide ((unhide R3).below b4); have C4 := hide ((unhide C3).below b4); have M4 := hide ((unhide M3).below b4); have B4 := hide ((unhide B3).trans (b4.mono (unhide B3).size)); clear b4))
    obtain ⟨U, hU⟩ : ∃ U, U = w4 := ⟨_, rfl⟩
    have HLS : Hid (∀ i, i < ps.length → ∀ q, q < 3 → w4.cell? ⟨g, i * 3 + q, none⟩ = some (poC (elAt ps i) q)) := hide (fun i hi q hq => rowPo_at (unhide R4) hi q hq)
    have HCN : Hid (∀ i, i < ps.length → ∀ q, q < 3 → w4.cell? ⟨gc, i * 3 + q, none⟩ = some (poC (rcA ps up down i) q)) := hide (fun i hi q hq => by have := ((unhide C4).here (rcL_len _ _ _ _) i hi q hq).1; rw [rcL_at hi] at this; exact this)
    have HMR : Hid (∀ i, i < ps.length → ∀ q, q < 3 → w4.cell? ⟨gm, i * 3 + q, none⟩ = some (poC (rcA ps (up + 1) (down + 2) i) q)) := hide (fun i hi q hq => by have := ((unhide M4).here (rcL_len _ _ _ _) i hi q hq).1; rw [rcL_at hi] at this; exact this)
    clear hU R1 R2 R3 C2 C3 M3 B1 B2 B3
    go_loopw [12] (fun s12 wr => ∃ i m : Nat, i ≤ ps.length ∧ s12 = .int .i64 (i : Int) ∧ wr = w4.drewN m) (fun s12 _ => ps.length - (intOf s12).toNat)
    case atStart => exact ⟨0, 0, Nat.zero_le _, rfl, rfl⟩
    case round =>
      obtain ⟨i, m, hi, rfl, rfl⟩ := hrel
      by_cases hlt : i < ps.length
      · as_aux_lemma =>
          have n0 : (0 : Int) ≤ (i : Int) := by omega
          have n1 : (i : Int) < (ps.length : Int) := by omega
          have n2 : (i : Int) < (ps.length : Int) := by omega
          have n3 : (i : Int) < (ps.length : Int) := by omega
          have l1 := (unhide HLS) i (by omega) 1 (by omega)
          have l2 := (unhide HLS) i (by omega) 2 (by omega)
          have c1 := (unhide HCN) i hlt 1 (by omega)
          have c2 := (unhide HCN) i hlt 2 (by omega)
          have m1 := (unhide HMR) i (by omega) 1 (by omega)
          have m2 := (unhide HMR) i (by omega) 2 (by omega)
          have d1 := (unhide HOK) i (by omega)
          have d2 := (unhide HIN) i
          have d3 := (unhide HM) i (by omega)
          simp only [poC] at l1 l2 c1 c2 m1 m2
          generalize (elAt ps i).a1 = la at *
          generalize (elAt ps i).a2 = lb at *
          generalize (rcA ps up down i).a1 = ca at *
          generalize (rcA ps up down i).a2 = cb at *
          generalize (rcA ps (up + 1) (down + 2) i).a1 = ma at *
          generalize (rcA ps (up + 1) (down + 2) i).a2 = mb at *
          have t1 : ¬ cb < ca := by omega
          have t2 : ¬ ca < la := by omega
          have t3 : ¬ lb < cb := by omega
          have t4 : ¬ ca < ma := by omega
          have t5 : ¬ mb < cb := by omega
          clear d1 d2 d3
          go_wp2_with fail
          go_quiet (fail)
          go_wp2_with fail
          go_roundw
          case rel => exact ⟨i + 1, _, by omega, by go_num, by first | rfl | exact World.drewN_drewN _ _ _⟩
          case measure => simp [intOf]; omega
      · have n1 : ¬ (i : Int) < (ps.length : Int) := by omega
        obtain ⟨w5, hw5⟩ : ∃ W, W = w4.drewN m := ⟨_, rfl⟩
        have R5 : Hid (RowE 3 poC w5 (some ⟨g, 0, none⟩) ps.length ps) := hide (by rw [hw5]; exact (unhide R4).drewN m)
        have C5 : Hid (OwnE 3 poC w5 w.heap.size 53 (.slice (some ⟨gc, 0, none⟩) ps.length cc) (rcL ps up down ps.length)) := hide (by rw [hw5]; exact (unhide C4).drewN m)
        have B5 : Hid (Below w.heap.size w w5) := hide (by rw [hw5]; exact (unhide B4).trans (bel0d' m))
        rw [← hw5]
        clear hw5 HLS HCN HMR R4 C4 M4 B4
        obtain ⟨hB, hP⟩ := (unhide BY) (by first | trivial | rfl)
        obtain ⟨h, hh⟩ : ∃ h, bsI ps up down = h := ⟨_, rfl⟩
        rw [hh] at hP
        have EB := hide hB
        have EH := hide hh
        have EP := hide hP
        have prf := pr_facts hP
        have EL := hide prf.1
        have E0 := hide prf.2.1
        have EI := hide prf.2.2.1
        have ES := hide prf.2.2.2
        have WB := hide (pfL_bd ps up down h)
        obtain ⟨zs, hzs⟩ : ∃ zs, pfL ps up down h = zs := ⟨_, rfl⟩
        rw [hzs] at EL E0 EI ES WB
        have EZ := hide hzs
        clear hB hh hP prf hzs
        go_wp2_with (first
          | (go_at_call 21; refine (implBest_any _ _ _ ps _ _ _ (unhide R5)).mono ?_; rintro e w6 ⟨rfl, b6⟩; rw [unhide EB, unhide EH]; have R6 := hide ((unhide R5).below b6); have C6 := hide ((unhide C5).below b6); have B6 := hide ((unhide B5).trans (b6.mono (unhide B5).size)); clear b6)
          | (go_at_call 22; refine (implProfile_any _ _ _ ps _ _ _ _ (unhide R6)).mono ?_; rintro e w7 ⟨aw, cw, rfl, o7, b7⟩; rw [unhide EP, unhide EZ, unhide EL]; rw [unhide EZ, unhide EL] at o7; obtain ⟨gw, rfl⟩ := ownI_some o7 hl1; have y0 : w7.cell? ⟨gw, 0, none⟩ = some (.int .i64 h) := (rowI_at o7.row (by omega)).trans (by rw [unhide E0]); have W7 := hide (o7.mono (base' := w.heap.size) (unhide B6).size); have R7 := hide ((unhide R6).below b7); have C7 := hide ((unhide C6).below b7); have B7 := hide ((unhide B6).trans (b7.mono (unhide B6).size)); clear o7 b7))
        have HLS : Hid (∀ i, i < ps.length → w7.cell? ⟨g, i * 3, none⟩ = some (.int .i64 (elAt ps i).a0)) := hide (fun i hi => rowPo_at (unhide R7) hi 0 (by omega))
        have HCN : Hid (∀ i, i < ps.length → ∀ q, q < 3 → w7.cell? ⟨gc, i * 3 + q, none⟩ = some (poC (rcA ps up down i) q)) := hide (fun i hi q hq => by have := ((unhide C7).here (rcL_len _ _ _ _) i hi q hq).1; rw [rcL_at hi] at this; exact this)
        have HWY : Hid (∀ i, i < ps.length → w7.cell? ⟨gw, i, none⟩ = some (.int .i64 (nth zs i))) := hide (fun i hi => rowI_at (unhide W7).row hi)
        clear R5 R6 R7 C5 C6 C7 B5 B6 W7 y0
        go_loopw [17] (fun s17 wr => ∃ i m : Nat, i ≤ ps.length ∧ s17 = .int .i64 (i : Int) ∧ wr = w7.drewN m) (fun s17 _ => ps.length - (intOf s17).toNat)
        case atStart => exact ⟨0, 0, Nat.zero_le _, rfl, rfl⟩
        case round =>
          obtain ⟨i, m, hi, rfl, rfl⟩ := hrel
          by_cases hlt : i < ps.length
          · have n0 : (0 : Int) ≤ (i : Int) := by omega
            have n1 : (i : Int) < (ps.length : Int) := by omega
            have l0 := (unhide HLS) i hlt
            have c1 := (unhide HCN) i hlt 1 (by omega)
            have c2 := (unhide HCN) i hlt 2 (by omega)
            have y1 := (unhide HWY) i hlt
            have d1 := (unhide EI) i hlt
            have b1 := (unhide WB) i (by rw [unhide EL]; exact hlt)
            have p1 := (unhide HP) i hlt
            simp only [poC] at c1 c2
            obtain ⟨x, hx⟩ : ∃ x, nth zs i = x := ⟨_, rfl⟩
            obtain ⟨ca, hca⟩ : ∃ x, (rcA ps up down i).a1 = x := ⟨_, rfl⟩
            obtain ⟨cb, hcb⟩ : ∃ x, (rcA ps up down i).a2 = x := ⟨_, rfl⟩
            rw [hca] at c1 d1
            rw [hcb] at c2 d1
            rw [hx] at y1 d1 b1
            have t1 : ¬ x < ca := by omega
            have t2 : ¬ cb < x := by omega
            clear d1 hca hcb
            by_cases hi0 : i = 0
            · as_aux_lemma =>
                have hz1 : ¬ (0 : Int) < (i : Int) := by omega
                have hz2 : ¬ 0 < i := by omega
                have HI := hide hi0
                clear hi0 p1 hx
                go_wp2_with fail
                go_quiet (fail)
                go_wp2_with fail
                go_roundw
                case rel => exact ⟨i + 1, _, by omega, by go_num, by first | rfl | exact World.drewN_drewN _ _ _⟩
                case measure => simp [intOf]; omega
            · as_aux_lemma =>
                obtain ⟨j, hj⟩ : ∃ j, i = j + 1 := ⟨i - 1, by omega⟩
                have hsub : (i : Int) - 1 = (j : Int) := by omega
                have hwr : IntKind.i64.wrap (j : Int) = (j : Int) := by rw [IntKind.wrap_i64]; omega
                have hj0 : (0 : Int) ≤ (j : Int) := by omega
                have hj1 : (j : Int) < (ps.length : Int) := by omega
                have hz0 : (0 : Int) < (i : Int) := by omega
                have hz2 : 0 < i := by omega
                have l0j := (unhide HLS) j (by omega)
                have y1j := (unhide HWY) j (by omega)
                have b1j := (unhide WB) j (by rw [unhide EL]; omega)
                have pj := (unhide HP) j (by omega)
                have sl := (unhide ES) j (by omega)
                rw [← hj, hx] at sl
                have hpr : (elAt ps (i - 1)).a0 = (elAt ps j).a0 := by rw [hj]; rfl
                obtain ⟨y, hy⟩ : ∃ y, nth zs j = y := ⟨_, rfl⟩
                rw [hy] at y1j b1j sl
                obtain ⟨fi, hfi⟩ : ∃ y, (elAt ps i).a0 = y := ⟨_, rfl⟩
                obtain ⟨fj, hfj⟩ : ∃ y, (elAt ps j).a0 = y := ⟨_, rfl⟩
                rw [hfi] at l0 p1 sl
                rw [hpr, hfj] at p1
                rw [hfj] at l0j pj sl
                obtain ⟨dd, hdd⟩ : ∃ dd, fi - fj = dd := ⟨_, rfl⟩
                rw [hdd] at sl
                have hd0 : 0 ≤ dd ∧ dd ≤ 100000 := by omega
                have m1 := mulBd (s := down) (d := dd) (A := 1000) (B := 100000) (by omega) (by omega) (by omega) (by omega) (by omega) (by omega)
                have m2 := mulBd (s := up) (d := dd) (A := 1000) (B := 100000) (by omega) (by omega) (by omega) (by omega) (by omega) (by omega)
                obtain ⟨md, hmd⟩ : ∃ m, down * dd = m := ⟨_, rfl⟩
                obtain ⟨mu, hmu⟩ : ∃ m, up * dd = m := ⟨_, rfl⟩
                rw [hmd] at m1 sl
                rw [hmu] at m2 sl
                obtain ⟨xy, hxy⟩ : ∃ z, x - y = z := ⟨_, rfl⟩
                obtain ⟨yx, hyx⟩ : ∃ z, y - x = z := ⟨_, rfl⟩
                have t3 : ¬ mu < xy := by omega
                have t4 : ¬ md < yx := by omega
                have t5 : -100000 ≤ xy ∧ xy ≤ 100000 := by omega
                have t6 : -100000 ≤ yx ∧ yx ≤ 100000 := by omega
                have hw1 : IntKind.i64.wrap mu = mu := by rw [IntKind.wrap_i64]; omega
                have hw2 : IntKind.i64.wrap md = md := by rw [IntKind.wrap_i64]; omega
                have hw3 : IntKind.i64.wrap xy = xy := by rw [IntKind.wrap_i64]; omega
                have hw4 : IntKind.i64.wrap yx = yx := by rw [IntKind.wrap_i64]; omega
                have f0 : 0 ≤ fi ∧ fi ≤ 100000 := p1.1
                have f1 : 0 ≤ fj ∧ fj ≤ 100000 := pj.1
                have HJ := hide hj
                clear p1 pj sl hpr hfi hfj hx hy hi0 hj
                go_wp2_with fail
                go_quiet (fail)
                go_wp2_with fail
                go_quiet (fail)
                go_wp2_with fail
                go_quiet (fail)
                go_wp2_with fail
                go_roundw
                case rel => exact ⟨i + 1, _, by omega, by go_num, by first | rfl | exact World.drewN_drewN _ _ _⟩
                case measure => simp [intOf]; omega
          · have n1 : ¬ (i : Int) < (ps.length : Int) := by omega
            have e1 := ds_30.1
            have e2 := ds_30.2
            have E1 := hide e1
            have E2 := hide e2
            have B8 : Hid (Below w.heap.size w (w7.drewN m)) := hide ((unhide B7).trans (bel0d' m))
            clear e1 e2
            go_wp2_with (go_at_call 23; refine (implDescent_any _ _ _ _).mono ?_; rintro e w9 ⟨rfl, b9⟩; rw [unhide E1, unhide E2]; have B9 := hide ((unhide B8).trans (b9.mono (unhide B8).size)); clear b9)
            go_ret
            exact ⟨rfl, unhide B9⟩
  · as_aux_lemma =>
    have k0 : (0 : Int) ≤ (K : Int) := by omega
    have hb1 : ((K : Int) == -1) = false := by simp <;> omega
    have hb2 : ¬ (K : Int) = -1 := by omega
    have k3 : (0 : Int) ≤ (K' : Int) := by omega
    have k4 : ¬ (K' : Int) < (K : Int) := by omega
    have k5 : ¬ K' < K := by omega
    have k6 : decide (K' < K) = false := decide_eq_false k5
    go_wp2_with (first
      | ((fail_if_success have := A1); go_at_call 13; refine ((unhide HAT) 1 _ rfl (by omega) _ (unhide B1)).mono ?_; rintro e w' ⟨rfl, hw⟩; subst w'; have A1 := True.intro)
      | (go_at_call 13; refine ((unhide HAT) 2 _ rfl (by omega) _ (unhide B1)).mono ?_; rintro e w' ⟨rfl, hw⟩; subst w')
      | ((fail_if_success have := B2); go_at_call 19; refine ((unhide HR1) _ (unhide R1)).mono ?_; rintro e w2 ⟨gc, cc, rfl, o2, b2⟩; have R2 := hide ((unhide R1).below b2); have C2 := hide (o2.mono (base' := w.heap.size) (unhide B1).size); have B2 := hide ((unhide B1).trans (b2.mono (unhide B1).size)); clear o2 b2)
      | ((fail_if_success have := B3); go_at_call 19; refine ((unhide HR2) _ (unhide R2)).mono ?_; rintro e w3 ⟨gm, cm, rfl, o3, b3⟩; have R3 := hide ((unhide R2).below b3); have C3 := hide ((unhide C2).below b3); have M3 := hide (o3.mono (base' := w.heap.size) (unhide B2).size); have B3 := hide ((unhide B2).trans (b3.mono (unhide B2).size)); clear o3 b3)
      | (go_at_call 20; refine (implPointsOk_is _ _ _ ps _ (unhide R3) q1).mono ?_; rintro e w4 ⟨rfl, b4⟩; have R4 := hide ((unhide R3).below b4); have C4 := hide ((unhide C3).below b4); have M4 := hide ((unhide M3).below b4); have B4 := hide ((unhide B3).trans (b4.mono (unhide B3).size)); clear b4))
    obtain ⟨U, hU⟩ : ∃ U, U = w4 := ⟨_, rfl⟩
    have HLS : Hid (∀ i, i < ps.length → ∀ q, q < 3 → w4.cell? ⟨g, i * 3 + q, none⟩ = some (poC (elAt ps i) q)) := hide (fun i hi q hq => rowPo_at (unhide R4) hi q hq)
    have HCN : Hid (∀ i, i < K → ∀ q, q < 3 → w4.cell? ⟨gc, i * 3 + q, none⟩ = some (poC (rcA ps up down i) q)) := hide (fun i hi q hq => by have := ((unhide C4).here (rcL_len _ _ _ _) i hi q hq).1; rw [rcL_at hi] at this; exact this)
    have HMR : Hid (∀ i, i < K' → ∀ q, q < 3 → w4.cell? ⟨gm, i * 3 + q, none⟩ = some (poC (rcA ps (up + 1) (down + 2) i) q)) := hide (fun i hi q hq => by have := ((unhide M4).here (rcL_len _ _ _ _) i hi q hq).1; rw [rcL_at hi] at this; exact this)
    clear hU R1 R2 R3 C2 C3 M3 B1 B2 B3
    go_loopw [12] (fun s12 wr => ∃ i m : Nat, i ≤ K ∧ s12 = .int .i64 (i : Int) ∧ wr = w4.drewN m) (fun s12 _ => K - (intOf s12).toNat)
    case atStart => exact ⟨0, 0, Nat.zero_le _, rfl, rfl⟩
    case round =>
      obtain ⟨i, m, hi, rfl, rfl⟩ := hrel
      by_cases hlt : i < K
      · have n0 : (0 : Int) ≤ (i : Int) := by omega
        have n1 : (i : Int) < (K : Int) := by omega
        have n2 : (i : Int) < (ps.length : Int) := by omega
        have n3 : (i : Int) < (K' : Int) := by omega
        have l1 := (unhide HLS) i (by omega) 1 (by omega)
        have l2 := (unhide HLS) i (by omega) 2 (by omega)
        have c1 := (unhide HCN) i hlt 1 (by omega)
        have c2 := (unhide HCN) i hlt 2 (by omega)
        have m1 := (unhide HMR) i (by omega) 1 (by omega)
        have m2 := (unhide HMR) i (by omega) 2 (by omega)
        have d1 := (unhide HOK) i (by omega)
        have d2 := (unhide HIN) i
        have d3 := (unhide HM) i (by omega)
        simp only [poC] at l1 l2 c1 c2 m1 m2
        generalize (elAt ps i).a1 = la at *
        generalize (elAt ps i).a2 = lb at *
        generalize (rcA ps up down i).a1 = ca at *
        generalize (rcA ps up down i).a2 = cb at *
        generalize (rcA ps (up + 1) (down + 2) i).a1 = ma at *
        generalize (rcA ps (up + 1) (down + 2) i).a2 = mb at *
        have t1 : ¬ cb < ca := by omega
        have t2 : ¬ ca < la := by omega
        have t3 : ¬ lb < cb := by omega
        have t4 : ¬ ca < ma := by omega
        have t5 : ¬ mb < cb := by omega
        clear d1 d2 d3
        go_wp2_with fail
        go_quiet (fail)
        go_wp2_with fail
        go_roundw
        case rel => exact ⟨i + 1, _, by omega, by go_num, by first | rfl | exact World.drewN_drewN _ _ _⟩
        case measure => simp [intOf]; omega
      · have n1 : ¬ (i : Int) < (K : Int) := by omega
        obtain ⟨w5, hw5⟩ : ∃ W, W = w4.drewN m := ⟨_, rfl⟩
        have R5 : Hid (RowE 3 poC w5 (some ⟨g, 0, none⟩) ps.length ps) := hide (by rw [hw5]; exact (unhide R4).drewN m)
        have C5 : Hid (OwnE 3 poC w5 w.heap.size 53 (.slice (some ⟨gc, 0, none⟩) K cc) (rcL ps up down K)) := hide (by rw [hw5]; exact (unhide C4).drewN m)
        have B5 : Hid (Below w.heap.size w w5) := hide (by rw [hw5]; exact (unhide B4).trans (bel0d' m))
        rw [← hw5]
        clear hw5 HLS HCN HMR R4 C4 M4 B4
        have EB := hide ((unhide BN) k1)
        go_wp2_with (go_at_call 21; refine (implBest_any _ _ _ ps _ _ _ (unhide R5)).mono ?_; rintro e w6 ⟨rfl, b6⟩; rw [unhide EB]; have B6 := hide ((unhide B5).trans (b6.mono (unhide B5).size)); clear b6)
        go_ret
        exact ⟨rfl, unhide B6⟩
  · as_aux_lemma =>
    have k0 : (0 : Int) ≤ (K : Int) := by omega
    have hb1 : ((K : Int) == -1) = false := by simp <;> omega
    have hb2 : ¬ (K : Int) = -1 := by omega
    go_wp2_with (first
      | ((fail_if_success have := A1); go_at_call 13; refine ((unhide HAT) 1 _ rfl (by omega) _ (unhide B1)).mono ?_; rintro e w' ⟨rfl, hw⟩; subst w'; have A1 := True.intro)
      | (go_at_call 13; refine ((unhide HAT) 2 _ rfl (by omega) _ (unhide B1)).mono ?_; rintro e w' ⟨rfl, hw⟩; subst w')
      | ((fail_if_success have := B2); go_at_call 19; refine ((unhide HR1) _ (unhide R1)).mono ?_; rintro e w2 ⟨gc, cc, rfl, o2, b2⟩; have R2 := hide ((unhide R1).below b2); have C2 := hide (o2.mono (base' := w.heap.size) (unhide B1).size); have B2 := hide ((unhide B1).trans (b2.mono (unhide B1).size)); clear o2 b2)
      | ((fail_if_success have := B3); go_at_call 19; refine ((unhide HR2) _ (unhide R2)).mono ?_; rintro e w3 ⟨gm, cm, rfl, o3, b3⟩; have R3 := hide ((unhide R2).below b3); have C3 := hide ((unhide C2).below b3); have M3 := hide (o3.mono (base' := w.heap.size) (unhide B2).size); have B3 := hide ((unhide B2).trans (b3.mono (unhide B2).size)); clear o3 b3)
      | (go_at_call 20; refine (implPointsOk_is _ _ _ ps _ (unhide R3) q1).mono ?_; rintro e w4 ⟨rfl, b4⟩; have R4 := hide ((unhide R3).below b4); have C4 := hide ((unhide C3).below b4); have M4 := hide ((unhide M3).below b4); have B4 := hide ((unhide B3).trans (b4.mono (unhide B3).size)); clear b4))
    obtain ⟨U, hU⟩ : ∃ U, U = w4 := ⟨_, rfl⟩
    have HLS : Hid (∀ i, i < ps.length → ∀ q, q < 3 → w4.cell? ⟨g, i * 3 + q, none⟩ = some (poC (elAt ps i) q)) := hide (fun i hi q hq => rowPo_at (unhide R4) hi q hq)
    have HCN : Hid (∀ i, i < K → ∀ q, q < 3 → w4.cell? ⟨gc, i * 3 + q, none⟩ = some (poC (rcA ps up down i) q)) := hide (fun i hi q hq => by have := ((unhide C4).here (rcL_len _ _ _ _) i hi q hq).1; rw [rcL_at hi] at this; exact this)
    have HMR : Hid (∀ i, i < ps.length → ∀ q, q < 3 → w4.cell? ⟨gm, i * 3 + q, none⟩ = some (poC (rcA ps (up + 1) (down + 2) i) q)) := hide (fun i hi q hq => by have := ((unhide M4).here (rcL_len _ _ _ _) i hi q hq).1; rw [rcL_at hi] at this; exact this)
    clear hU R1 R2 R3 C2 C3 M3 B1 B2 B3
    go_loopw [12] (fun s12 wr => ∃ i m : Nat, i ≤ K ∧ s12 = .int .i64 (i : Int) ∧ wr = w4.drewN m) (fun s12 _ => K - (intOf s12).toNat)
    case atStart => exact ⟨0, 0, Nat.zero_le _, rfl, rfl⟩
    case round =>
      obtain ⟨i, m, hi, rfl, rfl⟩ := hrel
      by_cases hlt : i < K
      · have n0 : (0 : Int) ≤ (i : Int) := by omega
        have n1 : (i : Int) < (K : Int) := by omega
        have n2 : (i : Int) < (ps.length : Int) := by omega
        have n3 : (i : Int) < (ps.length : Int) := by omega
        have l1 := (unhide HLS) i (by omega) 1 (by omega)
        have l2 := (unhide HLS) i (by omega) 2 (by omega)
        have c1 := (unhide HCN) i hlt 1 (by omega)
        have c2 := (unhide HCN) i hlt 2 (by omega)
        have m1 := (unhide HMR) i (by omega) 1 (by omega)
        have m2 := (unhide HMR) i (by omega) 2 (by omega)
        have d1 := (unhide HOK) i (by omega)
        have d2 := (unhide HIN) i
        have d3 := (unhide HM) i (by omega)
        simp only [poC] at l1 l2 c1 c2 m1 m2
        generalize (elAt ps i).a1 = la at *
        generalize (elAt ps i).a2 = lb at *
        generalize (rcA ps up down i).a1 = ca at *
        generalize (rcA ps up down i).a2 = cb at *
        generalize (rcA ps (up + 1) (down + 2) i).a1 = ma at *
        generalize (rcA ps (up + 1) (down + 2) i).a2 = mb at *
        have t1 : ¬ cb < ca := by omega
        have t2 : ¬ ca < la := by omega
        have t3 : ¬ lb < cb := by omega
        have t4 : ¬ ca < ma := by omega
        have t5 : ¬ mb < cb := by omega
        clear d1 d2 d3
        go_wp2_with fail
        go_quiet (fail)
        go_wp2_with fail
        go_roundw
        case rel => exact ⟨i + 1, _, by omega, by go_num, by first | rfl | exact World.drewN_drewN _ _ _⟩
        case measure => simp [intOf]; omega
      · have n1 : ¬ (i : Int) < (K : Int) := by omega
        obtain ⟨w5, hw5⟩ : ∃ W, W = w4.drewN m := ⟨_, rfl⟩
        have R5 : Hid (RowE 3 poC w5 (some ⟨g, 0, none⟩) ps.length ps) := hide (by rw [hw5]; exact (unhide R4).drewN m)
        have C5 : Hid (OwnE 3 poC w5 w.heap.size 53 (.slice (some ⟨gc, 0, none⟩) K cc) (rcL ps up down K)) := hide (by rw [hw5]; exact (unhide C4).drewN m)
        have B5 : Hid (Below w.heap.size w w5) := hide (by rw [hw5]; exact (unhide B4).trans (bel0d' m))
        rw [← hw5]
        clear hw5 HLS HCN HMR R4 C4 M4 B4
        have EB := hide ((unhide BN) k1)
        go_wp2_with (go_at_call 21; refine (implBest_any _ _ _ ps _ _ _ (unhide R5)).mono ?_; rintro e w6 ⟨rfl, b6⟩; rw [unhide EB]; have B6 := hide ((unhide B5).trans (b6.mono (unhide B5).size)); clear b6)
        go_ret
        exact ⟨rfl, unhide B6⟩

theorem lawFnProfiles (a : Option Addr) (len cap : Nat) (w : World) (hb : Bytes w a len) (hin : ∀ b off, a = some ⟨b, off, none⟩ → b < w.heap.size) :
    Calls Try.prog 5 #[.slice a len cap] w fun e w' => e = .returned (.bool true) ∧ Below w.heap.size w w' := by
  by_cases h : (1048576 : Int) < len
  · exact lawFnProfiles_big a len cap w h
  · exact lawFnProfiles_small a len cap w h hb hin

end Go.Proofs.Ytbaocifpifbldae
