/-
  What the model's Decide answers: as the plain function. At every argument; nothing that was there is written.
-/
import Derived.Test.YtkebjipmbgjilakStopSpec
namespace Go.Proofs.Ytkebjipmbgjilak
open Go.RowKit

set_option maxHeartbeats 2000000 in
theorem specDecide_any (p d s e lift way : Int) (w : World) :
    Calls Try.prog 13 #[.agg #[.int .i64 p, .int .i64 d, .int .i64 s, .int .i64 e], .int .i64 lift, .int .i64 way] w fun x w' => x = .returned (.tuple #[.int .i64 (decR p d s e lift way).1, .int .i64 (decR p d s e lift way).2.1, .bool (decR p d s e lift way).2.2]) ∧ Below w.heap.size w w' := by
  have R0 := hide (Rn.new (w := w) p d s e 26)
  have B0 := hide (bel1 (w := w) (Obj.cells #[.int .i64 p, .int .i64 d, .int .i64 s, .int .i64 e] 26))
  rcases three (runB p d s e) (inB lift 1 400) (inB way 0 10000000) with ⟨h, hv⟩ | ⟨h, h', hv⟩ | ⟨h, h', h'', hv⟩ | ⟨h, h', h'', hv⟩
  iterate 3
    have HE := hide (decR_no (p := p) (d := d) (s := s) (e := e) (lift := lift) (way := way) hv)
    clear hv
    go_enter Try.func13, Try.ntmps13
    go_wp2_with fail
    refine (specRunnerOk_is _ _ _ _ _ h).mono ?_
    rintro x w1 ⟨rfl, b1⟩
    have B1 := hide ((unhide B0).trans (b1.mono (by simp)))
    clear b1
    go_wp2_with (go_at_call 30; refine (l1In_any _ _ _ _).mono ?_; rintro e w' ⟨rfl, hw⟩; subst w')
    go_ret3
    exact ⟨ret_three (unhide HE).symm, unhide B1⟩
  have HO := hide (decR_yes (p := p) (d := d) (s := s) (e := e) (lift := lift) (way := way) hv)
  have hl : 1 ≤ lift ∧ lift ≤ 400 := by simpa [inB] using h'
  clear hv
  go_enter Try.func13, Try.ntmps13
  go_wp2_with fail
  refine (specRunnerOk_is _ _ _ _ _ h).mono ?_
  rintro x w1 ⟨rfl, b1⟩
  have B1 := hide ((unhide B0).trans (b1.mono (by simp)))
  have R1 := hide ((unhide R0).below b1)
  clear b1
  go_wp2_with (go_at_call 30; refine (l1In_any _ _ _ _).mono ?_; rintro e w' ⟨rfl, hw⟩; subst w')
  clear h h' h''
  go_loopw [9, 10, 11] (fun lo hi i wr => ∃ (k : Nat), lo = .int .i64 (lowS p d s e lift way k) ∧ hi = .int .i64 (highS p d s e lift way k) ∧ i = .int .i64 k ∧ (k : Int) ≤ lift + 1 ∧ Rn wr w.heap.size p d s e ∧ Below w.heap.size w wr) (fun _ _ i _ => (lift + 1 - intOf i).toNat)
  case atStart => exact ⟨0, rfl, rfl, rfl, by omega, unhide R1, unhide B1⟩
  case round =>
    clear R1 B1 R0 B0
    obtain ⟨k, rfl, rfl, rfl, hk, hrn, hbel⟩ := hrel
    have c0 := hrn.c0
    have c1 := hrn.c1
    have c2 := hrn.c2
    have c3 := hrn.c3
    have HR := hide hrn
    have HB := hide hbel
    have lb := low_bd p d s e lift way k
    clear hrn hbel
    by_cases h1 : (k : Int) ≤ lift
    · have HS : Hid (suffB p d s e lift way k = ((rollR p d s e k lift).2.2 && (stopR p d s e k).2 && decide ((rollR p d s e k lift).1 ≤ way) && decide ((stopR p d s e k).1 ≤ way))) := hide rfl
      have HL : Hid (lowS p d s e lift way (k + 1) = if suffB p d s e lift way k then (if lowS p d s e lift way k < 0 then (k : Int) else lowS p d s e lift way k) else lowS p d s e lift way k) := hide rfl
      have HH : Hid (highS p d s e lift way (k + 1) = if suffB p d s e lift way k then (k : Int) else highS p d s e lift way k) := hide rfl
      go_wp2_with fail
      refine (specRolls_any p d s e k lift _).mono ?_
      rintro x w2 ⟨rfl, b2⟩
      have R2 := (unhide HR).below b2
      have HB2 := hide ((unhide HB).trans (b2.mono (unhide HB).size))
      have c0 := R2.c0
      have c1 := R2.c1
      have c2 := R2.c2
      have c3 := R2.c3
      have HR2 := hide R2
      clear b2 R2
      go_wp2_with fail
      refine (specStops_any p d s e k _).mono ?_
      rintro x w3 ⟨rfl, b3⟩
      have HR3 := hide ((unhide HR2).below b3)
      have HB3 := hide ((unhide HB2).trans (b3.mono (unhide HB2).size))
      clear b3 c0 c1 c2 c3
      generalize rollR p d s e k lift = R at *
      generalize stopR p d s e k = Q at *
      generalize suffB p d s e lift way k = sf at *
      obtain ⟨A, T, f⟩ := R
      obtain ⟨B, g⟩ := Q
      simp only at HS ⊢
      cases f
      · have HZ := hide ((unhide HS).trans (show _ = false by simp))
        go_wp2
        go_roundw
        case rel => exact ⟨k + 1, by rw [unhide HL, unhide HZ]; rfl, by rw [unhide HH, unhide HZ]; rfl, by go_num, by omega, unhide HR3, unhide HB3⟩
        case measure => simp [intOf]; omega
      cases g
      · have HZ := hide ((unhide HS).trans (show _ = false by simp))
        go_wp2
        go_roundw
        case rel => exact ⟨k + 1, by rw [unhide HL, unhide HZ]; rfl, by rw [unhide HH, unhide HZ]; rfl, by go_num, by omega, unhide HR3, unhide HB3⟩
        case measure => simp [intOf]; omega
      by_cases h2 : A ≤ way
      · by_cases h3 : B ≤ way
        · have HZ := hide ((unhide HS).trans (show _ = true by simp [h2, h3]))
          by_cases h4 : lowS p d s e lift way k < 0
          · have H4 := hide h4
            go_wp2
            go_roundw
            case rel => exact ⟨k + 1, by rw [unhide HL, unhide HZ, if_pos rfl, if_pos (unhide H4)], by rw [unhide HH, unhide HZ]; rfl, by go_num, by omega, unhide HR3, unhide HB3⟩
            case measure => simp [intOf]; omega
          · have H4 := hide h4
            go_wp2
            go_roundw
            case rel => exact ⟨k + 1, by rw [unhide HL, unhide HZ, if_pos rfl, if_neg (unhide H4)], by rw [unhide HH, unhide HZ]; rfl, by go_num, by omega, unhide HR3, unhide HB3⟩
            case measure => simp [intOf]; omega
        · have HZ := hide ((unhide HS).trans (show _ = false by simp [h2, h3]))
          go_wp2
          go_roundw
          case rel => exact ⟨k + 1, by rw [unhide HL, unhide HZ]; rfl, by rw [unhide HH, unhide HZ]; rfl, by go_num, by omega, unhide HR3, unhide HB3⟩
          case measure => simp [intOf]; omega
      · have HZ := hide ((unhide HS).trans (show _ = false by simp [h2]))
        go_wp2
        go_roundw
        case rel => exact ⟨k + 1, by rw [unhide HL, unhide HZ]; rfl, by rw [unhide HH, unhide HZ]; rfl, by go_num, by omega, unhide HR3, unhide HB3⟩
        case measure => simp [intOf]; omega
    · have hkk : lift.toNat + 1 = k := by omega
      rw [hkk] at HO
      clear hkk
      by_cases h4 : lowS p d s e lift way k < 0
      · have HE := hide ((unhide HO).trans (if_pos h4))
        clear HO
        go_wp2
        go_ret3
        exact ⟨ret_three (unhide HE).symm, unhide HB⟩
      · have HE := hide ((unhide HO).trans (if_neg h4))
        clear HO
        go_wp2
        go_ret3
        exact ⟨ret_three (unhide HE).symm, unhide HB⟩

end Go.Proofs.Ytkebjipmbgjilak
