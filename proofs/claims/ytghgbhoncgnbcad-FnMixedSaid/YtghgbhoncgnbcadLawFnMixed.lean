/-
  The law FnMixed returns true at every list of bytes and writes nothing that was there: the walk. No condition.
-/
import Derived.Test.YtghgbhoncgnbcadAtFix
import Derived.Test.YtghgbhoncgnbcadMxFacts
import Derived.Test.YtghgbhoncgnbcadMixImpl
import Derived.Test.YtghgbhoncgnbcadModTrim
import Derived.Deep.RegionHeld3
import Derived.Deep.Cut
import Derived.Deep.CutRange
import Derived.Deep.RegionLaw
namespace Go.Proofs.Ytghgbhoncgnbcad
open Go.RowKit

theorem mod201 {x : Int} (h0 : 0 ≤ x) : -100 ≤ IntKind.i64.wrap (x.tmod 201 - 100) ∧ IntKind.i64.wrap (x.tmod 201 - 100) ≤ 100 := by
  rw [Int.tmod_eq_emod_of_nonneg h0, IntKind.wrap_i64]
  omega
theorem at_is (a : Option Addr) (len cap : Nat) (i : Int) (n : Nat) (w : World) (hi : i = (n : Int)) (hb : Bytes w a len) (hl : len ≤ 1048576) (hn : n ≤ 1000) :
    Calls Try.prog 8 #[.slice a len cap, .int .i64 i] w fun e w' => ∃ x : Int, e = .returned (.int .i64 x) ∧ (0 ≤ x ∧ x ≤ 255) ∧ w' = w := by
  subst hi; exact at_any a len cap n w hb hl hn

set_option maxRecDepth 20000 in
set_option maxHeartbeats 1000000 in
theorem lawFnMixed_big (a : Option Addr) (len cap : Nat) (w : World) (h : (1048576 : Int) < len) :
    Calls Try.prog 6 #[.slice a len cap] w fun e w' => e = .returned (.bool true) ∧ Below w.heap.size w w' := by
  have hd : decide ((1048576 : Int) < len) = true := by simpa using h
  go_enter Try.func6, Try.ntmps6
  go_wp2_with fail
  refine (big_any a len cap _).mono ?_
  rintro e w' ⟨rfl, hw⟩
  subst w'
  rw [hd]
  go_wp2
  go_ret
  exact ⟨rfl, Below.refl _ _⟩

set_option maxRecDepth 20000 in
set_option maxHeartbeats 3000000 in
theorem lawFnMixed_small (a : Option Addr) (len cap : Nat) (w : World) (h : ¬ (1048576 : Int) < len) (hb : Bytes w a len) :
    Calls Try.prog 6 #[.slice a len cap] w fun e w' => e = .returned (.bool true) ∧ Below w.heap.size w w' := by
  have hd0 : decide ((1048576 : Int) < len) = false := by simpa using h
  have HY := hide hb
  have HL : Hid (len ≤ 1048576) := hide (by omega)
  obtain ⟨x0, hx0, hat⟩ := at_fix a len cap 0 w hb (by omega) (by omega)
  have HAT := hide hat
  obtain ⟨n0, hn0⟩ : ∃ n0 : Nat, 1 + x0 % 8 = n0 := ⟨(1 + x0 % 8).toNat, by omega⟩
  have h8 : 1 ≤ n0 ∧ n0 ≤ 8 := by omega
  have HN0 := hide hn0
  clear hb h hat hn0
  obtain ⟨W, hW⟩ : ∃ W, W = w.alloc (Obj.cells #[.slice none 0 0, .slice none 0 0] 58) := ⟨_, rfl⟩
  have S0 : Hid (MxAt w W w.heap.size 0 0 0 none none [] []) := hide (by
    rw [hW]
    exact ⟨Blk.new _ _, ownI_nil _ _, ownI_nil _ _, fun g hg => by simp [Value.ownBlock] at hg, rfl, rfl, fun i hi => by omega, fun i hi => by omega, bel1 _, Nat.le_refl _⟩)
  have HW := hide hW
  clear hW
  go_enter Try.func6, Try.ntmps6
  go_wp2_with fail
  refine (big_any a len cap _).mono ?_
  rintro e w' ⟨rfl, hw⟩
  subst w'
  rw [hd0]
  clear hd0
  go_wp2_with fail
  rw [← unhide HW]
  clear HW
  go_loopw [4] (fun i wr => ∃ (L c1 c2 : Nat) (A1 A2 : Option Addr) (xs ys : List Int), i = .int .i64 (L : Int) ∧ L ≤ n0 ∧ MxAt w wr w.heap.size L c1 c2 A1 A2 xs ys) (fun i _ => n0 - (intOf i).toNat)
  case atStart => exact ⟨0, 0, 0, none, none, [], [], rfl, by omega, unhide S0⟩
  case round =>
  clear S0
  obtain ⟨L, c1, c2, A1, A2, xs, ys, rfl, hL, hs⟩ := hrel
  obtain ⟨U, rfl⟩ : ∃ U, U = wr := ⟨_, rfl⟩
  have HS := hide hs
  have hbU := hs.b
  have HB := hide hbU
  have p0 : U.cell? ⟨w.heap.size, 0, none⟩ = some (.slice A1 L c1) := hs.p.c 0 (by simp)
  have p1 : U.cell? ⟨w.heap.size, 1, none⟩ = some (.slice A2 L c2) := hs.p.c 1 (by simp)
  have YY := hide ((unhide HY).below hbU)
  clear hs hbU
  go_wp2_with fail
  refine (unhide HAT _ (unhide HB)).mono ?_
  rintro e w' ⟨rfl, hw⟩
  subst w'
  by_cases hj : L < n0
  · have hj1 : (L : Int) < 1 + x0 % 8 := by rw [unhide HN0]; omega
    have HO := hide (unhide HS).o1
    have HF0 : Hid (xs.length = L) := hide (unhide HS).lx
    go_wp2_with fail
    have wr1 : IntKind.i64.wrap ((L : Int) + 1) = (L : Int) + 1 := by rw [IntKind.wrap_i64]; omega
    have HZ : Hid (w.heap.size + 1 ≤ U.heap.size) := hide (unhide HS).p.lt
    go_cut [] from 31 to 41 (fun wc => ∃ (g c : Nat) (x : Int), MxMid w wc w.heap.size L c c2 (some ⟨g, 0, none⟩) A2 (xs ++ [x]) ys)
    case first =>
      go_region_law (first
        | ((fail_if_success have := B1); go_simp; go_wp2_with (go_at_call 8; refine (at_is a len cap _ (L + 1) _ (by omega) (by first | exact unhide YY | exact (unhide YY).below (bel0d 1)) (unhide HL) (by omega)).mono ?_; rintro e w1 ⟨xa, rfl, ⟨hxa, hxb⟩, hw1⟩; have B1 : Hid (Below U.heap.size U w1) := hide (by rw [hw1]; first | exact Below.refl _ _ | exact bel0d' 1); clear hw1; have p0 : w1.cell? ⟨w.heap.size, 0, none⟩ = some (.slice A1 L c1) := ((unhide HS).p.below (unhide B1)).c 0 (by simp); have f0 : w1.frozen? ⟨w.heap.size, 0, none⟩ = false := ((unhide HS).p.below (unhide B1)).f 0 (by simp); have p0a : (w1.alloc (Obj.cells #[.int .i64 (IntKind.i64.wrap (xa.tmod 201 - 100))] 3)).cell? ⟨w.heap.size, 0, none⟩ = some (.slice A1 L c1) := (((unhide HS).p.below (unhide B1)).alloc _).c 0 (by simp); have HO1 := hide ((unhide HO).below (unhide B1)); have HZ1 : Hid (w.heap.size + 1 ≤ w1.heap.size) := hide (Nat.le_trans (unhide HZ) (unhide B1).size)))
        | (refine step_app_int rfl (.tmp 32) (.tmp 39) rfl (n := L) (IntKind.i64.wrap (xa.tmod 201 - 100)) (unhide HO1) (unhide HF0) (by simp [Act.eval]) rfl (by simp [Act.eval]) (unhide HZ1) (by omega) (by have := mod201 hxa; omega) ?_; intro g9 c9 w9 o9 gr9 at9; have p9 : Blk w9 w.heap.size [.slice A1 L c1, .slice A2 L c2] := ((unhide HS).p.below (unhide B1)).apart gr9 (fun e => by have := (unhide HO).lies _ e.symm; omega); have p0 : w9.cell? ⟨w.heap.size, 0, none⟩ = some (.slice A1 L c1) := p9.c 0 (by simp); have f0 : w9.frozen? ⟨w.heap.size, 0, none⟩ = false := p9.f 0 (by simp)))
      all_goals (
        go_wp2
        go_meet
        case rel => exact ⟨_, _, _, (unhide HS).first (unhide B1) (mod201 hxa) o9 gr9 at9⟩)
    case rest =>
      obtain ⟨q1, d1, x1, hm⟩ := hcut
      obtain ⟨V, rfl⟩ : ∃ V, V = wc := ⟨_, rfl⟩
      have HM := hide hm
      have YV := hide ((unhide HY).below hm.b)
      have HO2 := hide hm.o2
      have HF2 : Hid (ys.length = L) := hide hm.ly
      have HZ2 : Hid (w.heap.size + 1 ≤ V.heap.size) := hide hm.p.lt
      have r0 : V.cell? ⟨w.heap.size, 1, none⟩ = some (.slice A2 L c2) := hm.p.c 1 (by simp)
      have wr2 : IntKind.i64.wrap ((L : Int) + 20) = (L : Int) + 20 := by rw [IntKind.wrap_i64]; omega
      clear hm HS HO HZ HF0 p0 p1 YY HB
      go_wp2_with fail
      go_region_law (first
        | ((fail_if_success have := B1); go_simp; go_wp2_with (go_at_call 8; refine (at_is a len cap _ (L + 20) _ (by omega) (by first | exact unhide YV | exact (unhide YV).below (bel0d 1)) (unhide HL) (by omega)).mono ?_; rintro e w1 ⟨xa, rfl, ⟨hxa, hxb⟩, hw1⟩; have B1 : Hid (Below V.heap.size V w1) := hide (by rw [hw1]; first | exact Below.refl _ _ | exact bel0d' 1); clear hw1; have p0 : w1.cell? ⟨w.heap.size, 1, none⟩ = some (.slice A2 L c2) := ((unhide HM).p.below (unhide B1)).c 1 (by simp); have f0 : w1.frozen? ⟨w.heap.size, 1, none⟩ = false := ((unhide HM).p.below (unhide B1)).f 1 (by simp); have p0a : (w1.alloc (Obj.cells #[.int .i64 (IntKind.i64.wrap (xa.tmod 201 - 100))] 3)).cell? ⟨w.heap.size, 1, none⟩ = some (.slice A2 L c2) := (((unhide HM).p.below (unhide B1)).alloc _).c 1 (by simp); have HO1 := hide ((unhide HO2).below (unhide B1)); have HZ1 : Hid (w.heap.size + 1 ≤ w1.heap.size) := hide (Nat.le_trans (unhide HZ2) (unhide B1).size)))
        | (refine step_app_int rfl (.tmp 43) (.tmp 50) rfl (n := L) (IntKind.i64.wrap (xa.tmod 201 - 100)) (unhide HO1) (unhide HF2) (by simp [Act.eval]) rfl (by simp [Act.eval]) (unhide HZ1) (by omega) (by have := mod201 hxa; omega) ?_; intro g9 c9 w9 o9 gr9 at9; have p9 : Blk w9 w.heap.size [.slice (some ⟨q1, 0, none⟩) (L + 1) d1, .slice A2 L c2] := ((unhide HM).p.below (unhide B1)).apart gr9 (fun e => by have := (unhide HO2).lies _ e.symm; omega); have p0 : w9.cell? ⟨w.heap.size, 1, none⟩ = some (.slice A2 L c2) := p9.c 1 (by simp); have f0 : w9.frozen? ⟨w.heap.size, 1, none⟩ = false := p9.f 1 (by simp)))
      all_goals (
        go_wp2
        go_roundw
        case rel => exact ⟨L + 1, _, _, _, _, _, _, by go_num, by omega, (unhide HM).second (unhide B1) (mod201 hxa) o9 gr9 at9⟩
        case measure => simp [intOf]; omega)
  · have hj1 : ¬ (L : Int) < 1 + x0 % 8 := by rw [unhide HN0]; omega
    have hL1 : 1 ≤ L := by omega
    have hL8 : L ≤ 8 := by omega
    clear hL
    go_wp2_with fail
    refine (at_any a len cap 40 U (unhide YY) (unhide HL) (by omega)).mono ?_
    rintro e w' ⟨x40, rfl, ⟨h40, g40⟩, hw⟩
    subst w'
    go_wp2_with fail
    refine (at_any a len cap 41 U (unhide YY) (unhide HL) (by omega)).mono ?_
    rintro e w' ⟨x41, rfl, ⟨h41, g41⟩, hw⟩
    subst w'
    obtain ⟨V, hV⟩ : ∃ V, V = U.alloc (Obj.cells #[.int .i64 (-x40), .int .i64 x41, .int .i64 5] 48) := ⟨_, rfl⟩
    have bV : Below U.heap.size U V := by rw [hV]; exact bel1 _
    have kq : Blk V U.heap.size [.int .i64 (-x40), .int .i64 x41, .int .i64 5] := by rw [hV]; exact Blk.new _ _
    have KP := hide ((unhide HS).p.below bV)
    have KQ := hide kq
    have BV := hide ((unhide HB).trans (bV.mono (unhide HB).size))
    have YV := hide ((unhide YY).below bV)
    have MI : Hid (MiIn V A1 A2 L L xs ys) := hide ⟨((unhide HS).o1.below bV).row, ((unhide HS).o2.below bV).row⟩
    have LX := hide (unhide HS).lx
    have LY := hide (unhide HS).ly
    have BX := hide (unhide HS).bx
    have BY := hide (unhide HS).by'
    have HV := hide hV
    clear hV bV kq HS HB YY p0 p1
    go_wp2_with fail
    rw [← unhide HV]
    refine (at_any a len cap 42 V (unhide YV) (unhide HL) (by omega)).mono ?_
    rintro e w' ⟨x42, rfl, ⟨h42, g42⟩, hw⟩
    subst w'
    go_wp2_with fail
    refine (at_any a len cap 43 V (unhide YV) (unhide HL) (by omega)).mono ?_
    rintro e w' ⟨x43, rfl, ⟨h43, g43⟩, hw⟩
    subst w'
    have m0 : V.cell? ⟨w.heap.size, 0, none⟩ = some (.slice A1 L c1) := (unhide KP).c 0 (by simp)
    have m1 : V.cell? ⟨w.heap.size, 1, none⟩ = some (.slice A2 L c2) := (unhide KP).c 1 (by simp)
    have k0 : V.cell? ⟨U.heap.size, 0, none⟩ = some (.int .i64 (-x40)) := (unhide KQ).c 0 (by simp)
    have k1 : V.cell? ⟨U.heap.size, 1, none⟩ = some (.int .i64 x41) := (unhide KQ).c 1 (by simp)
    have k2 : V.cell? ⟨U.heap.size, 2, none⟩ = some (.int .i64 5) := (unhide KQ).c 2 (by simp)
    go_wp2_with fail
    obtain ⟨p, hp⟩ : ∃ p, x42 * 4 - 500 = p := ⟨_, rfl⟩
    obtain ⟨r, hr⟩ : ∃ r, x43 * 4 - 500 = r := ⟨_, rfl⟩
    obtain ⟨lo, hlo⟩ : ∃ lo, -x40 = lo := ⟨_, rfl⟩
    have hp1 : -500 ≤ p ∧ p ≤ 520 := by omega
    have hr1 : -500 ≤ r ∧ r ≤ 520 := by omega
    have hlo1 : -255 ≤ lo ∧ lo ≤ 0 := by omega
    have hok : miB xs ys p r lo x41 5 = true := mixed_ok (by rw [unhide LX]; exact hL8) (by rw [unhide LX, unhide LY]) (by rw [unhide LX]; exact unhide BX) (by rw [unhide LY]; exact unhide BY) hlo1 ⟨h41, g41⟩ hp1 hr1
    rw [hp, hr, hlo]
    rw [hlo] at k0
    clear hp hr hlo HV
    refine (implMix_any _ _ _ _ _ _ xs ys p r lo x41 5 V (unhide MI)).mono ?_
    rintro e w2 ⟨a9, c9, rfl, oo, b2⟩
    have e1 : miL xs ys p r lo x41 5 = miTo xs ys p r lo x41 L := by rw [(mi_yes hok).1, unhide LX]
    have e2 : miC xs ys p r lo x41 5 = miCn xs ys p r lo x41 L := by rw [(mi_yes hok).2, unhide LX]
    rw [e1, e2, hok, miTo_len]
    rw [e1, miTo_len] at oo
    have ro := oo.row
    have m0 : w2.cell? ⟨w.heap.size, 0, none⟩ = some (.slice A1 L c1) := ((unhide KP).below b2).c 0 (by simp)
    have m1 : w2.cell? ⟨w.heap.size, 1, none⟩ = some (.slice A2 L c2) := ((unhide KP).below b2).c 1 (by simp)
    have k0 : w2.cell? ⟨U.heap.size, 0, none⟩ = some (.int .i64 lo) := (b2.cell (p := ⟨U.heap.size, 0, none⟩) (unhide KQ).lt).trans k0
    have k1 : w2.cell? ⟨U.heap.size, 1, none⟩ = some (.int .i64 x41) := ((unhide KQ).below b2).c 1 (by simp)
    have r1 := (unhide MI).r1.below b2
    have r2 := (unhide MI).r2.below b2
    have BW := hide ((unhide BV).trans (b2.mono (unhide BV).size))
    have YW := hide ((unhide YV).below b2)
    have FT := hide (miFit hok)
    have LX' : Hid (xs.length = L) := LX
    clear e1 e2 oo b2 hok k2 MI KP KQ BV YV
    rcases r1.open_ with ⟨h0, _⟩ | ⟨b1, f1, rfl, _, y1⟩
    · omega
    rcases r2.open_ with ⟨h0, _⟩ | ⟨b2, f2, rfl, _, y2⟩
    · omega
    rcases ro.open_ with ⟨h0, _⟩ | ⟨b3, f3, rfl, _, y3⟩
    · omega
    have Y1 := hide y1
    have Y2 := hide y2
    have Y3 := hide y3
    have hneq : ((L : Int) != (L : Int)) = false := by simp
    clear r1 r2 ro y1 y2 y3
    go_wp2_with fail
    go_loopw [11, 12] (fun hv iv wr => ∃ k n : Nat, hv = .int .i64 (miCn xs ys p r lo x41 k) ∧ iv = .int .i64 (k : Int) ∧ k ≤ L ∧ wr = w2.drewN n) (fun _ iv _ => L - (intOf iv).toNat)
    case atStart => exact ⟨0, 0, rfl, rfl, Nat.zero_le _, rfl⟩
    case round =>
    obtain ⟨k, n, rfl, rfl, hk, hwr⟩ := hrel
    subst wr
    have cb := miCn_bd xs ys p r lo x41 k
    by_cases hlt : k < L
    · have hlt' : (k : Int) < (L : Int) := by omega
      have hk0 : (0 : Int) ≤ (k : Int) := by omega
      have z1 := (unhide Y1) k hlt
      have z2 := (unhide Y2) k hlt
      have z3 := (unhide Y3) k hlt
      rw [nth_miTo hlt] at z3
      have pr := miSum_bd (unhide FT) k (by rw [unhide LX]; exact hlt)
      have hin := hold_in (x := miX xs ys p r k) (a := lo) (b := x41) (by omega)
      have HEND := hide (hold_ends (x := miX xs ys p r k) (a := lo) (b := x41) (by omega))
      obtain ⟨Y, hY⟩ : ∃ Y, miY xs ys p r lo x41 k = Y := ⟨_, rfl⟩
      have hY' : holdI (miX xs ys p r k) lo x41 = Y := hY
      rw [hY] at z3
      rw [hY'] at hin HEND
      obtain ⟨x, hx⟩ : ∃ x, nth xs k = x := ⟨_, rfl⟩
      obtain ⟨y, hy⟩ : ∃ y, nth ys k = y := ⟨_, rfl⟩
      have hX : miX xs ys p r k = (x * p + y * r).tdiv 100 := by unfold miX; rw [hx, hy]
      rw [hX] at HEND
      rw [hx] at z1 pr
      rw [hy] at z2 pr
      have td := tdiv100 (x := x * p + y * r) (by omega) (by omega)
      have i0 : ¬ Y < lo := by omega
      have i1 : ¬ x41 < Y := by omega
      have HSAME : Hid ((x * p + y * r).tdiv 100 = Y → miCn xs ys p r lo x41 (k + 1) = miCn xs ys p r lo x41 k) := hide (fun h => miCn_same (by rw [hX, hY]; exact h))
      have HMORE : Hid (¬ (x * p + y * r).tdiv 100 = Y → miCn xs ys p r lo x41 (k + 1) = miCn xs ys p r lo x41 k + 1) := hide (fun h => miCn_more (by rw [hX, hY]; exact h))
      clear hY hY' hx hy hX hin
      cases hq : ((x * p + y * r).tdiv 100 != Y) with
      | false =>
        have HC := hide ((unhide HSAME) (by simpa using hq))
        clear HEND HSAME HMORE
        go_wp2_with fail
        go_quiet (fail)
        go_wp2_with fail
        go_quiet (fail)
        go_wp2_with fail
        go_roundw
        case rel => exact ⟨k + 1, _, by rw [unhide HC], by go_num, by omega, by first | rfl | simp [World.drewN_drewN]⟩
        case measure => simp [intOf]; omega
      | true =>
        have hne : ¬ (x * p + y * r).tdiv 100 = Y := by simpa using hq
        have HC := hide ((unhide HMORE) hne)
        have hends := (unhide HEND) hne
        clear HEND HSAME HMORE hne
        cases hq1 : (Y != lo) with
        | false =>
          clear hends
          go_wp2_with fail
          go_quiet (fail)
          go_wp2_with fail
          go_quiet (fail)
          go_wp2_with fail
          go_quiet (fail)
          go_wp2_with fail
          go_roundw
          case rel => exact ⟨k + 1, _, by rw [unhide HC], by go_num, by omega, by first | rfl | simp [World.drewN_drewN]⟩
          case measure => simp [intOf]; omega
        | true =>
          have hq2 : (Y != x41) = false := by
            have h1 : ¬ Y = lo := by simpa using hq1
            simp; omega
          clear hends
          go_wp2_with fail
          go_quiet (fail)
          go_wp2_with fail
          go_quiet (fail)
          go_wp2_with fail
          go_quiet (fail)
          go_wp2_with fail
          go_roundw
          case rel => exact ⟨k + 1, _, by rw [unhide HC], by go_num, by omega, by first | rfl | simp [World.drewN_drewN]⟩
          case measure => simp [intOf]; omega
    · have hlt' : ¬ (k : Int) < (L : Int) := by omega
      obtain ⟨X, hX⟩ : ∃ X, X = w2.drewN n := ⟨_, rfl⟩
      have BX9 : Hid (Below w.heap.size w X) := hide (by rw [hX]; exact (unhide BW).trans (bel0d' n))
      have YX : Hid (Bytes X a len) := hide (by rw [hX]; exact (unhide YW).below (bel0d n))
      have HC : Hid (miCn xs ys p r lo x41 k = miCn xs ys p r lo x41 L) := hide (by rw [show k = L by omega])
      rw [unhide HC, ← hX]
      clear hX
      have hqq : (miCn xs ys p r lo x41 L == miCn xs ys p r lo x41 L) = true := by simp
      go_wp2_with fail
      go_loopw [14, 15, 16] (fun tv hv iv wr => ∃ j : Nat, iv = .int .i64 (j : Int) ∧ j ≤ 10 ∧ wr = X ∧ ((j < 10 ∧ tv = .int .i64 0 ∧ hv = .int .i64 (j : Int)) ∨ (j = 10 ∧ tv = .int .i64 1 ∧ hv = .int .i64 0))) (fun _ _ iv _ => 10 - (intOf iv).toNat)
      case atStart => exact ⟨0, rfl, by omega, rfl, .inl ⟨by omega, rfl, rfl⟩⟩
      case round =>
      obtain ⟨j, rfl, hj10, hwr, hst⟩ := hrel
      subst wr
      rcases hst with ⟨hjj, rfl, rfl⟩ | ⟨rfl, rfl, rfl⟩
      · have hjl : (j : Int) < 10 := by omega
        have hj0 : (0 : Int) ≤ (j : Int) := by omega
        go_wp2_with fail
        refine (at_any a len cap 44 X (unhide YX) (unhide HL) (by omega)).mono ?_
        rintro e w' ⟨x44, rfl, ⟨h44, g44⟩, hw⟩
        subst w'
        by_cases hj9 : j < 9
        · have T := tick_on (h := 1 + x44) (k := (j : Int)) (by omega) (by omega) (by omega) (by omega)
          have HT := hide T
          clear T
          go_wp2_with fail
          refine (implTrimTick_same _ _ _ _).mono ?_
          rintro e w' ⟨rfl, hw⟩
          subst w'
          rw [(unhide HT).1, (unhide HT).2.1, (unhide HT).2.2]
          go_wp2_with fail
          go_roundw
          case rel => exact ⟨j + 1, by go_num, by omega, by first | rfl | trivial, .inl ⟨by omega, rfl, by go_num⟩⟩
          case measure => simp [intOf]; omega
        · obtain rfl : j = 9 := by omega
          have HT := hide (tick_last (h := 1 + x44) (by omega) (by omega))
          go_wp2_with fail
          refine (implTrimTick_same _ _ _ _).mono ?_
          rintro e w' ⟨rfl, hw⟩
          subst w'
          have HT' : Hid (trT 0 (1 + x44) ((9 : Nat) : Int) = 1 ∧ trK 0 (1 + x44) ((9 : Nat) : Int) = 0 ∧ trB 0 (1 + x44) ((9 : Nat) : Int) = true) := HT
          first | rw [(unhide HT).1, (unhide HT).2.1, (unhide HT).2.2] | rw [(unhide HT').1, (unhide HT').2.1, (unhide HT').2.2]
          go_wp2_with fail
          go_roundw
          case rel => exact ⟨10, by go_num, by omega, by first | rfl | trivial, .inr ⟨rfl, rfl, rfl⟩⟩
          case measure => simp [intOf]
      · go_wp2_with fail
        go_ret
        exact ⟨rfl, unhide BX9⟩

set_option maxRecDepth 20000 in
theorem lawFnMixed (a : Option Addr) (len cap : Nat) (w : World) (hb : Bytes w a len) :
    Calls Try.prog 6 #[.slice a len cap] w fun e w' => e = .returned (.bool true) ∧ Below w.heap.size w w' := by
  by_cases h : (1048576 : Int) < len
  · exact lawFnMixed_big a len cap w h
  · exact lawFnMixed_small a len cap w h hb

end Go.Proofs.Ytghgbhoncgnbcad
