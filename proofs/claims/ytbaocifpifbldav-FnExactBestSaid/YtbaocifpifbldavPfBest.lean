/-
  The best first height, in the model.
-/
import Derived.Test.YtbaocifpifbldavPbPure

namespace Go.Proofs.Ytbaocifpifbldav
open Go.RowKit

theorem abs_is {c : Int} (a : Int) (w : World) (h : (a.natAbs : Int) = c) (h0 : -9223372036854775807 ≤ a) (h1 : a ≤ 9223372036854775807) :
    Calls Try.prog 44 #[.int .i64 a] w fun e w' => e = .returned (.int .i64 c) ∧ w' = w := by
  subst h
  by_cases h : a < 0
  all_goals
    go_enter Try.func44, Try.ntmps44
    go_wp2
    go_ret
    exact ⟨ret_int (by omega), rfl⟩
set_option maxRecDepth 20000 in
set_option maxHeartbeats 1000000 in
theorem specBest_bad1 (ad : Option Addr) (len cap : Nat) (ps : List Po) (up down : Int) (w : World) (hr : RowE 3 poC w ad len ps) (q1 : poB ps = false) : Calls Try.prog 23 #[.slice ad len cap, .int .i64 up, .int .i64 down] w fun e w' => e = .returned (.tuple #[.int .i64 (bsI ps up down), .bool (bsB ps up down)]) ∧ Below w.heap.size w w' := by
  have e0 : bsR ps up down = (0, -1) := by simp [bsR, bsK, q1]
  have e1 : bsI ps up down = 0 := by simp [bsI, e0]
  have e2 : bsB ps up down = false := by simp [bsB, e0]
  rw [e1, e2]
  have HR := hide hr
  clear hr e0 e1 e2
  go_enter Try.func23, Try.ntmps23
  go_wp2_with (go_at_call 10; refine (specPointsOk_is _ _ _ ps _ (unhide HR) q1).mono ?_; rintro e w1 ⟨rfl, b1⟩; have B1 := hide b1; clear b1)
  go_ret2
  exact ⟨rfl, unhide B1⟩
set_option maxRecDepth 20000 in
set_option maxHeartbeats 1000000 in
theorem specBest_bad2 (ad : Option Addr) (len cap : Nat) (ps : List Po) (up down : Int) (w : World) (hr : RowE 3 poC w ad len ps) (q1 : poB ps = true) (q2 : ¬ (elAt ps 0).a2 ≤ 300) : Calls Try.prog 23 #[.slice ad len cap, .int .i64 up, .int .i64 down] w fun e w' => e = .returned (.tuple #[.int .i64 (bsI ps up down), .bool (bsB ps up down)]) ∧ Below w.heap.size w w' := by
  have e0 : bsR ps up down = (0, -1) := by simp [bsR, bsK, q2]
  have e1 : bsI ps up down = 0 := by simp [bsI, e0]
  have e2 : bsB ps up down = false := by simp [bsB, e0]
  rw [e1, e2]
  have hz := hr.len_eq
  subst hz
  have pf := poB_facts q1
  have lb := pf.2.1
  have i0 : (0 : Int) < (ps.length : Int) := by omega
  have HR := hide hr
  rcases hr.open_ with ⟨h0, _⟩ | ⟨bb, off, rfl, _, hcs⟩
  · omega
  have HCS := hide hcs
  have q3 : 300 < (elAt ps 0).a2 := by omega
  clear hr e0 e1 e2 hcs pf
  go_enter Try.func23, Try.ntmps23
  go_wp2_with ((go_at_call 10; refine (specPointsOk_is _ _ _ ps _ (unhide HR) q1).mono ?_; rintro e w1 ⟨rfl, b1⟩; have B1 := hide b1; clear b1); have z1 : w1.cell? ⟨bb, off + 1, none⟩ = some (.int .i64 (elAt ps 0).a1) := (by have k := unhide HCS 0 (by omega) 1 (by omega); have k2 := ((unhide B1).cell (block_lt_of_cell k)).trans k; simpa [poC] using k2); have z2 : w1.cell? ⟨bb, off + 2, none⟩ = some (.int .i64 (elAt ps 0).a2) := (by have k := unhide HCS 0 (by omega) 2 (by omega); have k2 := ((unhide B1).cell (block_lt_of_cell k)).trans k; simpa [poC] using k2))
  go_ret2
  exact ⟨rfl, unhide B1⟩
set_option maxRecDepth 20000 in
set_option maxHeartbeats 1000000 in
theorem specBest_on (ad : Option Addr) (len cap : Nat) (ps : List Po) (up down : Int) (w : World) (hr : RowE 3 poC w ad len ps) (q1 : poB ps = true) (q2 : (elAt ps 0).a2 ≤ 300) : Calls Try.prog 23 #[.slice ad len cap, .int .i64 up, .int .i64 down] w fun e w' => e = .returned (.tuple #[.int .i64 (bsI ps up down), .bool (bsB ps up down)]) ∧ Below w.heap.size w w' := by
  have EK : Hid (bsK ps = true) := hide (by simp [bsK, q1, q2])
  have hz := hr.len_eq
  subst hz
  have pf := poB_facts q1
  have lb := pf.2.1
  have hb := pf.2.2
  have i0 : (0 : Int) < (ps.length : Int) := by omega
  have p0 := poAt_facts (pf.1 0 (by omega))
  have HR := hide hr
  rcases hr.open_ with ⟨h0, _⟩ | ⟨bb, off, rfl, _, hcs⟩
  · omega
  have HCS := hide hcs
  have q3 : ¬ 300 < (elAt ps 0).a2 := by omega
  clear hr hcs pf
  go_enter Try.func23, Try.ntmps23
  go_wp2_with ((go_at_call 10; refine (specPointsOk_is _ _ _ ps _ (unhide HR) q1).mono ?_; rintro e w1 ⟨rfl, b1⟩; have B1 := hide b1; clear b1); have z1 : w1.cell? ⟨bb, off + 1, none⟩ = some (.int .i64 (elAt ps 0).a1) := (by have k := unhide HCS 0 (by omega) 1 (by omega); have k2 := ((unhide B1).cell (block_lt_of_cell k)).trans k; simpa [poC] using k2); have z2 : w1.cell? ⟨bb, off + 2, none⟩ = some (.int .i64 (elAt ps 0).a2) := (by have k := unhide HCS 0 (by omega) 2 (by omega); have k2 := ((unhide B1).cell (block_lt_of_cell k)).trans k; simpa [poC] using k2))
  have J0 : Hid (Below w.heap.size w w1) := B1
  have lh : (elAt ps 0).a1 ≤ (elAt ps 0).a2 := by omega
  have l0 : 0 ≤ (elAt ps 0).a1 := by omega
  obtain ⟨lo, hlo⟩ : ∃ r, (elAt ps 0).a1 = r := ⟨_, rfl⟩
  obtain ⟨hi, hhi⟩ : ∃ r, (elAt ps 0).a2 = r := ⟨_, rfl⟩
  have HLO := hide hlo
  have HHI := hide hhi
  rw [hlo, hhi] at lh
  rw [hlo] at l0
  rw [hhi] at q2
  clear z1 z2 p0 B1
  rw [hlo]
  clear hlo hhi q3
  go_loopw [8, 9, 10] (fun s8 s9 s10 wr => ∃ (n : Nat) (b s h : Int), s8 = .int .i64 b ∧ s9 = .int .i64 s ∧ s10 = .int .i64 h ∧ h = lo + n ∧ h ≤ hi + 1 ∧ Hid (bsS ps up down n = (b, s)) ∧ Hid (Below w.heap.size w wr)) (fun _ _ s10 _ => (hi + 1 - intOf s10).toNat)
  case atStart => exact ⟨0, 0, -1, lo, rfl, rfl, rfl, by omega, by omega, hide rfl, J0⟩
  case round =>
    obtain ⟨n, b, s, h, rfl, rfl, rfl, hh, hle, HS, HB⟩ := hrel
    have h0 : 0 ≤ h := by omega
    have HH := hide hh
    clear J0
    have z2 : wr.cell? ⟨bb, off + 2, none⟩ = some (.int .i64 hi) := by
      have k := unhide HCS 0 (by omega) 2 (by omega)
      have k2 := ((unhide HB).cell (block_lt_of_cell k)).trans k
      rw [← unhide HHI]
      simpa [poC] using k2
    by_cases hlt : h ≤ hi
    · have bd := pfL_bd ps up down h
      have wb := wsm_bd bd
      have psm := pfL_small ps up down h
      have pl1 : pfB ps up down h = true → 1 ≤ (pfL ps up down h).length ∧ (pfL ps up down h).length ≤ 1048576 := fun e => ⟨by simp [pfL, e, prL_len]; omega, psm⟩
      have HBD := hide bd
      have HWB := hide wb
      have eh : (elAt ps 0).a1 + (n : Int) = h := by rw [unhide HLO]; omega
      have HEH := hide eh
      clear bd wb psm eh hh
      cases hp : pfB ps up down h with
      | false =>
        have e0 : pfL ps up down h = [] := by simp [pfL, hp]
        have HE := hide e0
        have HN : Hid (bsS ps up down (n + 1) = (b, s)) := hide (by rw [bsS_no (by rw [unhide HEH]; exact hp)]; exact unhide HS)
        clear e0 pl1
        go_wp2_with (go_at_call 18; refine (specProfile_any _ _ _ ps _ _ _ _ ((unhide HR).below (unhide HB)) ).mono ?_; rintro e w2 ⟨a1, c1, rfl, hO, b2⟩; rw [hp]; rw [unhide HE]; have B2 := hide ((unhide HB).trans (b2.mono (unhide HB).size)); clear b2 hO)
        go_loopw [13, 14] (fun s13 s14 wv => s13 = .int .i64 0 ∧ s14 = .int .i64 1 ∧ Hid (Below w.heap.size w wv)) (fun _ _ _ => 0)
        case atStart => exact ⟨rfl, rfl, B2⟩
        case round =>
          obtain ⟨rfl, rfl, HV⟩ := hrel
          go_wp2
          go_roundw
          case rel => exact ⟨n + 1, b, s, h + 1, rfl, rfl, by go_num, by have := unhide HH; omega, by omega, HN, HV⟩
          case measure => (simp [intOf]; try omega)
      | true =>
        have pl := pl1 hp
        obtain ⟨zs, hzs⟩ : ∃ r, pfL ps up down h = r := ⟨_, rfl⟩
        have ew : wsA ps up down h = wsm zs (zs.length - 1) := by rw [wsA, hzs]
        have HEW := hide ew
        rw [hzs] at HBD HWB pl
        have HZS := hide hzs
        have PL := hide pl.1
        have pl0 := pl.1
        have pl2 := pl.2
        clear ew hzs pl1 pl
        go_wp2_with (go_at_call 18; refine (specProfile_any _ _ _ ps _ _ _ _ ((unhide HR).below (unhide HB)) ).mono ?_; rintro e w2 ⟨a1, c1, rfl, hO, b2⟩; rw [hp]; rw [unhide HZS] at hO ⊢; rcases hO.form with ⟨_, e9⟩ | ⟨g, cp, e9, _⟩; (exact absurd (unhide PL) (by rw [e9]; simp)); obtain ⟨rfl, rfl⟩ : a1 = some ⟨g, 0, none⟩ ∧ c1 = cp := (by injection e9 with e7 _ e8; exact ⟨e7, e8⟩); have HO := hide hO; have B2 := hide ((unhide HB).trans (b2.mono (unhide HB).size)); clear b2 hO e9)
        go_loopw [13, 14] (fun s13 s14 wv => ∃ (i : Nat) (c : Int), 1 ≤ i ∧ i ≤ zs.length ∧ s13 = .int .i64 c ∧ s14 = .int .i64 (i : Int) ∧ Hid (wsm zs (i - 1) = c) ∧ Hid (OwnI wv wr.heap.size (.slice (some ⟨g, 0, none⟩) zs.length c1) zs) ∧ Hid (Below w.heap.size w wv)) (fun _ s14 _ => zs.length - (intOf s14).toNat)
        case atStart => exact ⟨1, 0, Nat.le_refl _, by omega, rfl, rfl, hide rfl, HO, B2⟩
        case round =>
          obtain ⟨i, c, hi1, hi2, rfl, rfl, HC, HO2, HV⟩ := hrel
          clear HO B2
          by_cases hil : i < zs.length
          · obtain ⟨j, hj⟩ : ∃ j, i = j + 1 := ⟨i - 1, by omega⟩
            have hsub : (i : Int) - 1 = (j : Int) := by omega
            have hwr : IntKind.i64.wrap (j : Int) = (j : Int) := by rw [IntKind.wrap_i64]; omega
            have hj0 : (0 : Int) ≤ (j : Int) := by omega
            have hj1 : (j : Int) < (zs.length : Int) := by omega
            have n1 : (0 : Int) ≤ (i : Int) := by omega
            have n2 : (i : Int) < (zs.length : Int) := by omega
            have y1 := ((unhide HO2).here i hil).1
            have y2 := ((unhide HO2).here j (by omega)).1
            have b1 := unhide HBD i hil
            have b2 := unhide HBD j (by omega)
            have b3 := unhide HWB j (by omega)
            have hc : wsm zs j = c := by have := unhide HC; rw [hj] at this; exact this
            rw [hc] at b3
            have hnx : wsm zs i = c + ((nth zs i - nth zs j).natAbs : Int) := by rw [← hc, hj]; rfl
            obtain ⟨x, hx⟩ : ∃ r, nth zs i = r := ⟨_, rfl⟩
            obtain ⟨y, hy⟩ : ∃ r, nth zs j = r := ⟨_, rfl⟩
            obtain ⟨d, hd⟩ : ∃ r, ((x - y).natAbs : Int) = r := ⟨_, rfl⟩
            rw [hx, hy, hd] at hnx
            rw [hx] at y1 b1
            rw [hy] at y2 b2
            have d0 : 0 ≤ d ∧ d ≤ 100000 := by omega
            obtain ⟨d1, d2⟩ := d0
            obtain ⟨x0, x1⟩ := b1
            obtain ⟨y0, y9⟩ := b2
            have c0 := b3.1
            have c9 : c ≤ 200000000000 := by omega
            have HD := hide hd
            have HNX := hide hnx
            have HJ := hide hj
            clear hc hnx hx hy hd hj b3
            go_wp2_with fail
            go_quiet ((go_at_call 44; exact Calls.quiet_of_same (abs_is _ _ (unhide HD) (by omega) (by omega))))
            go_wp2
            go_roundw
            case rel => exact ⟨i + 1, c + d, by omega, by omega, by go_num, by go_num, hide (unhide HNX), hide ((unhide HO2).below (bel0d _)), hide ((unhide HV).trans (bel0d' _))⟩
            case measure => (simp [intOf]; try omega)
          · obtain rfl : i = zs.length := by omega
            have hw : wsA ps up down ((elAt ps 0).a1 + (n : Int)) = c := by rw [unhide HEH, unhide HEW]; exact unhide HC
            have HW := hide hw
            have hp2 : pfB ps up down ((elAt ps 0).a1 + (n : Int)) = true := by rw [unhide HEH]; exact hp
            have HP2 := hide hp2
            clear hw hp2
            by_cases k1 : s < 0
            · have HN : Hid (bsS ps up down (n + 1) = (h, c)) := hide (by rw [bsS_take (unhide HP2) (.inl (by rw [unhide HS]; exact k1)), unhide HW, unhide HEH])
              go_wp2
              go_roundw
              case rel => exact ⟨n + 1, h, c, h + 1, rfl, rfl, by go_num, by have := unhide HH; omega, by omega, HN, HV⟩
              case measure => (simp [intOf]; try omega)
            · by_cases k2 : c < s
              · have HN : Hid (bsS ps up down (n + 1) = (h, c)) := hide (by rw [bsS_take (unhide HP2) (.inr (by rw [unhide HS, unhide HW]; exact k2)), unhide HW, unhide HEH])
                go_wp2
                go_roundw
                case rel => exact ⟨n + 1, h, c, h + 1, rfl, rfl, by go_num, by have := unhide HH; omega, by omega, HN, HV⟩
                case measure => (simp [intOf]; try omega)
              · have HN : Hid (bsS ps up down (n + 1) = (b, s)) := hide (by rw [bsS_keep (by rw [unhide HS]; exact k1) (by rw [unhide HS, unhide HW]; exact k2)]; exact unhide HS)
                go_wp2
                go_roundw
                case rel => exact ⟨n + 1, b, s, h + 1, rfl, rfl, by go_num, by have := unhide HH; omega, by omega, HN, HV⟩
                case measure => (simp [intOf]; try omega)
    · have E1 : Hid (bsR ps up down = (b, s)) := hide (by
        have e : (hi - lo + 1).toNat = n := by omega
        rw [bsR, if_pos (unhide EK), unhide HLO, unhide HHI, e]
        exact unhide HS)
      have E2 : Hid (bsI ps up down = b) := hide (by rw [bsI, unhide E1])
      have E3 : Hid (bsB ps up down = decide (0 ≤ s)) := hide (by rw [bsB, unhide E1])
      go_wp2
      go_ret2
      exact ⟨by rw [unhide E2, unhide E3]; try rfl, unhide HB⟩

theorem specBest_any (ad : Option Addr) (len cap : Nat) (ps : List Po) (up down : Int) (w : World) (hr : RowE 3 poC w ad len ps) : Calls Try.prog 23 #[.slice ad len cap, .int .i64 up, .int .i64 down] w fun e w' => e = .returned (.tuple #[.int .i64 (bsI ps up down), .bool (bsB ps up down)]) ∧ Below w.heap.size w w' := by
  cases q1 : poB ps with
  | false => exact specBest_bad1 ad len cap ps up down w hr q1
  | true =>
    by_cases q2 : (elAt ps 0).a2 ≤ 300
    · exact specBest_on ad len cap ps up down w hr q1 q2
    · exact specBest_bad2 ad len cap ps up down w hr q1 q2

end Go.Proofs.Ytbaocifpifbldav
