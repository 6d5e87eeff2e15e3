/-
  What the program's RunnerOk, gain and Rolls answer: as the plain functions. At every argument; nothing that was there is written.
-/
import Derived.Test.YtkebjipmbgjilaaRunCell
import Derived.Test.YtkebjipmbgjilaaSmall
import Derived.WalkMore
namespace Go.Proofs.Ytkebjipmbgjilaa
open Go.RowKit

set_option maxHeartbeats 1000000 in
theorem implRunnerOk_any (p d s e : Int) (w : World) :
    Calls Try.prog 33 #[.agg #[.int .i64 p, .int .i64 d, .int .i64 s, .int .i64 e]] w fun x w' => x = .returned (.bool (runB p d s e)) ∧ Below w.heap.size w w' := by
  rcases four (inB p 1 40) (inB d 0 20) (inB s 1 40) (inB e 2 4) with ⟨h, hv⟩ | ⟨h, h', hv⟩ | ⟨h, h', h'', hv⟩ | ⟨h, h', h'', h3, hv⟩ | ⟨h, h', h'', h3, hv⟩
  all_goals
    have HE : Hid (runB p d s e = _) := hide hv
    clear hv
    go_enter Try.func33, Try.ntmps33
    go_wp2_with (go_at_call 52; refine (within_any _ _ _ _).mono ?_; rintro e w' ⟨rfl, hw⟩; subst w')
    go_ret
    exact ⟨ret_bool (unhide HE).symm, bel1 _⟩
theorem implRunnerOk_is {c : Bool} (p d s e : Int) (w : World) (hc : runB p d s e = c) :
    Calls Try.prog 33 #[.agg #[.int .i64 p, .int .i64 d, .int .i64 s, .int .i64 e]] w fun x w' => x = .returned (.bool c) ∧ Below w.heap.size w w' := by
  subst hc; exact implRunnerOk_any p d s e w

set_option maxHeartbeats 1000000 in
theorem gain_any (p d s e k : Int) (w : World) (hp : 1 ≤ p ∧ p ≤ 40) (hd : 0 ≤ d ∧ d ≤ 20) (hk : 1 ≤ k ∧ k ≤ 4) :
    Calls Try.prog 64 #[.agg #[.int .i64 p, .int .i64 d, .int .i64 s, .int .i64 e], .int .i64 k] w fun x w' => x = .returned (.int .i64 (grow p d k)) ∧ Below w.heap.size w w' := by
  have hb := (grow_bd hp hd hk).2
  by_cases h : k * p < d
  · have HE := hide (grow_no h)
    go_enter Try.func64, Try.ntmps64
    go_wp2
    try rw [Exit.noGoto_ret]
    go_ret
    exact ⟨ret_int (by rw [unhide HE]), bel1 _⟩
  · have HE := hide (grow_yes h)
    go_enter Try.func64, Try.ntmps64
    go_wp2
    try rw [Exit.noGoto_ret]
    go_ret
    exact ⟨ret_int (by rw [unhide HE]), bel1 _⟩

set_option maxHeartbeats 2000000 in
theorem implRolls_any (p d s e fail lift : Int) (w : World) :
    Calls Try.prog 32 #[.agg #[.int .i64 p, .int .i64 d, .int .i64 s, .int .i64 e], .int .i64 fail, .int .i64 lift] w fun x w' => x = .returned (.tuple #[.int .i64 (rollR p d s e fail lift).1, .int .i64 (rollR p d s e fail lift).2.1, .bool (rollR p d s e fail lift).2.2]) ∧ Below w.heap.size w w' := by
  have R0 := hide (Rn.new (w := w) p d s e 75)
  have B0 := hide (bel1 (w := w) (Obj.cells #[.int .i64 p, .int .i64 d, .int .i64 s, .int .i64 e] 75))
  rcases three (runB p d s e) (inB fail 0 400) (inB lift 1 400) with ⟨h, hv⟩ | ⟨h, h', hv⟩ | ⟨h, h', h'', hv⟩ | ⟨h, h', h'', hv⟩
  iterate 3
    have HE := hide (rollR_no (p := p) (d := d) (s := s) (e := e) (fail := fail) (lift := lift) hv)
    clear hv
    go_enter Try.func32, Try.ntmps32
    go_wp2_with fail
    go_step3
    go_wp2_with fail
    refine (implRunnerOk_is _ _ _ _ _ h).mono ?_
    rintro x w1 ⟨rfl, b1⟩
    have B1 := hide ((unhide B0).trans (b1.mono (by simp)))
    clear b1
    go_wp2_with (go_at_call 52; refine (within_any _ _ _ _).mono ?_; rintro e w' ⟨rfl, hw⟩; subst w')
    try rw [Exit.noGoto_ret]
    go_ret3
    exact ⟨ret_three (unhide HE).symm, unhide B1⟩
  have HE := hide (rollR_yes (p := p) (d := d) (s := s) (e := e) (fail := fail) (lift := lift) hv)
  obtain ⟨hp, hd, hs, he⟩ := runB_facts h
  have hf : 0 ≤ fail ∧ fail ≤ 400 := by simpa [inB] using h'
  have hl : 1 ≤ lift ∧ lift ≤ 400 := by simpa [inB] using h''
  clear hv
  go_enter Try.func32, Try.ntmps32
  go_wp2_with fail
  go_step3
  go_wp2_with fail
  refine (implRunnerOk_is _ _ _ _ _ h).mono ?_
  rintro x w1 ⟨rfl, b1⟩
  have B1 := hide ((unhide B0).trans (b1.mono (by simp)))
  have R1 := (unhide R0).below b1
  have c3 := R1.c3
  have R1 := hide R1
  clear b1
  go_wp2_with (go_at_call 52; refine (within_any _ _ _ _).mono ?_; rintro e w' ⟨rfl, hw⟩; subst w')
  go_step3
  go_wp2_with fail
  clear c3
  clear h h' h''
  go_loopw [9, 10, 11] (fun sp fa ti wr => ∃ (S F T : Int) (n : Nat), sp = .int .i64 S ∧ fa = .int .i64 F ∧ ti = .int .i64 T ∧ (0 ≤ T ∧ T ≤ S ∧ S ≤ 560 ∧ 0 ≤ F ∧ F ≤ 560 * T) ∧ Hid (rollF p d e fail lift n S F T = rollF p d e fail lift 400 0 0 0) ∧ lift - S ≤ n ∧ Rn wr w.heap.size p d s e ∧ Below w.heap.size w wr) (fun sp _ _ _ => (1000 - intOf sp).toNat)
  case atStart => exact ⟨0, 0, 0, 400, rfl, rfl, rfl, by omega, hide rfl, by omega, unhide R1, unhide B1⟩
  case round =>
    clear R1 B1 R0 B0
    obtain ⟨S, F, T, n, rfl, rfl, rfl, hbd, hro, hn, hrn, hbel⟩ := hrel
    have c0 := hrn.c0
    have c1 := hrn.c1
    have c2 := hrn.c2
    have c3 := hrn.c3
    have HR := hide hrn
    have HB := hide hbel
    clear hrn hbel
    by_cases h1 : lift ≤ S
    · have HZ := hide ((unhide hro).symm.trans (roll_end h1))
      go_wp2
      try rw [Exit.noGoto_ret]
      go_ret3
      exact ⟨ret_three (by rw [unhide HE, unhide HZ]), unhide HB⟩
    · by_cases h2 : fail ≤ S
      · have hup := rollUp_less (p := p) (d := d) (e := e) h2
        have hg := (grow_bd hp hd (k := e - 1) (by omega)).1
        have HUP := hide hup
        have HG := hide hg
        clear hup hg
        go_wp2_with fail
        refine (gain_any p d s e (e - 1) _ hp hd (by omega)).mono ?_
        rintro x w2 ⟨rfl, b2⟩
        have HR2 := hide ((unhide HR).below b2)
        have HB2 := hide ((unhide HB).trans (b2.mono (unhide HB).size))
        have hg := unhide HG
        generalize grow p d (e - 1) = g at *
        clear b2 c0 c1 c2 c3
        by_cases h0 : g = 0
        · subst h0
          have HZ := hide ((unhide hro).symm.trans (roll_no (by omega) hn (unhide HUP)))
          go_wp2
          try rw [Exit.noGoto_ret]
          go_ret3
          exact ⟨ret_three (by rw [unhide HE, unhide HZ]), unhide HB2⟩
        · obtain ⟨m, hm1, hm2⟩ := roll_go (f := F) (t := T) (by omega) hn (by rw [unhide HUP]; omega)
          rw [unhide HUP] at hm1 hm2
          have HM := hide (hm1.symm.trans (unhide hro))
          have hg0 : (g == 0) = false := by simpa using h0
          clear hm1
          go_wp2
          go_roundw
          case rel => exact ⟨S + g, F + (S + g), T + 1, m, by go_num, by go_num, by go_num, by omega, HM, hm2, unhide HR2, unhide HB2⟩
          case measure => simp [intOf]; omega
      · have hup := rollUp_all (p := p) (d := d) (e := e) h2
        have hg := (grow_bd hp hd (k := e) (by omega)).1
        have HUP := hide hup
        have HG := hide hg
        clear hup hg
        go_wp2_with fail
        refine (gain_any p d s e e _ hp hd (by omega)).mono ?_
        rintro x w2 ⟨rfl, b2⟩
        have HR2 := hide ((unhide HR).below b2)
        have HB2 := hide ((unhide HB).trans (b2.mono (unhide HB).size))
        have hg := unhide HG
        generalize grow p d e = g at *
        clear b2 c0 c1 c2 c3
        by_cases h0 : g = 0
        · subst h0
          have HZ := hide ((unhide hro).symm.trans (roll_no (by omega) hn (unhide HUP)))
          go_wp2
          try rw [Exit.noGoto_ret]
          go_ret3
          exact ⟨ret_three (by rw [unhide HE, unhide HZ]), unhide HB2⟩
        · obtain ⟨m, hm1, hm2⟩ := roll_go (f := F) (t := T) (by omega) hn (by rw [unhide HUP]; omega)
          rw [unhide HUP] at hm1 hm2
          have HM := hide (hm1.symm.trans (unhide hro))
          have hg0 : (g == 0) = false := by simpa using h0
          clear hm1
          go_wp2
          go_roundw
          case rel => exact ⟨S + g, F + (S + g), T + 1, m, by go_num, by go_num, by go_num, by omega, HM, hm2, unhide HR2, unhide HB2⟩
          case measure => simp [intOf]; omega

end Go.Proofs.Ytkebjipmbgjilaa
