/-
  The law FnInertial returns true at every list of bytes and writes nothing that was there: the walk. No condition.
-/
import Derived.Test.YtidgkkldhnckeaeAtFun
import Derived.Test.YtidgkkldhnckeaeInFacts
import Derived.Test.YtidgkkldhnckeaeInLst
import Derived.Test.YtidgkkldhnckeaeNavBlend
import Derived.Test.YtidgkkldhnckeaeNavBes
import Derived.Deep.Cut
import Derived.Deep.CutRange
import Derived.Deep.RegionLaw
namespace Go.Proofs.Ytidgkkldhnckeae
open Go.RowKit

set_option maxRecDepth 20000 in
set_option maxHeartbeats 1000000 in
theorem lawFnInertial_big (a : Option Addr) (len cap : Nat) (w : World) (h : (1048576 : Int) < len) :
    Calls Try.prog 4 #[.slice a len cap] w fun e w' => e = .returned (.bool true) ∧ Below w.heap.size w w' := by
  have hd : decide ((1048576 : Int) < len) = true := by simpa using h
  go_enter Try.func4, Try.ntmps4
  go_wp2_with fail
  refine (big_any a len cap _).mono ?_
  rintro e w' ⟨rfl, hw⟩
  subst w'
  rw [hd]
  go_wp2
  go_ret
  exact ⟨rfl, Below.refl _ _⟩

set_option maxRecDepth 20000 in
set_option maxHeartbeats 8000000 in
theorem lawFnInertial_small (a : Option Addr) (len cap : Nat) (w : World) (h : ¬ (1048576 : Int) < len) (hb : Bytes w a len) (_hin : ∀ b off, a = some ⟨b, off, none⟩ → b < w.heap.size) :
    Calls Try.prog 4 #[.slice a len cap] w fun e w' => e = .returned (.bool true) ∧ Below w.heap.size w w' := by
  have hd0 : decide ((1048576 : Int) < len) = false := by simpa using h
  obtain ⟨f, hf, hat⟩ := at_fun a len cap w hb (by omega)
  have HAT := hide hat
  have HF := hide hf
  have g0 := hf 0
  have g1 := hf 1
  have g2 := hf 2
  obtain ⟨N, hN⟩ : ∃ N : Nat, (f 2).tmod 20 = (N : Int) := ⟨((f 2).tmod 20).toNat, by rw [Int.tmod_eq_emod_of_nonneg (by omega)]; omega⟩
  have hNe : f 2 % 20 = (N : Int) := by rw [← hN, Int.tmod_eq_emod_of_nonneg (by omega)]
  have hN19 : N ≤ 19 := by omega
  clear hat hf hb h
  go_enter Try.func4, Try.ntmps4
  go_wp2_with fail
  refine (big_any a len cap _).mono ?_
  rintro e w' ⟨rfl, hw⟩
  subst w'
  rw [hd0]
  go_wp2_with fail
  refine ((unhide HAT) 0 _ rfl (by omega) _ (Below.refl _ _)).mono ?_
  rintro e w' ⟨rfl, hw⟩
  subst w'
  go_wp2_with fail
  refine ((unhide HAT) 1 _ rfl (by omega) _ (Below.refl _ _)).mono ?_
  rintro e w' ⟨rfl, hw⟩
  subst w'
  go_wp2_with fail
  go_loopw [4, 5] (fun l i wr => ∃ (k g c : Nat), k ≤ N ∧ l = .slice (some ⟨g, 0, none⟩) k c ∧ i = .int .i64 k ∧ Hid (Lst w wr (f 0) (-(f 1)) (.slice (some ⟨g, 0, none⟩) k c) (fth f k))) (fun _ i _ => N - (intOf i).toNat)
  case atStart => exact ⟨0, _, _, Nat.zero_le _, rfl, rfl, hide (lst_new _ _ _ _)⟩
  case round =>
    obtain ⟨k, g, c, hk, rfl, rfl, L⟩ := hrel
    by_cases hlt : k < N
    · have b3 := (unhide HF) (k + 3)
      have b23 := (unhide HF) (k + 23)
      obtain ⟨A, hA⟩ : ∃ A, (f (k + 3)).tmod 21 = A := ⟨_, rfl⟩
      have hAe : f (k + 3) % 21 = A := by rw [← hA, Int.tmod_eq_emod_of_nonneg (by omega)]
      obtain ⟨B, hB⟩ : ∃ B, (f (k + 23)).tmod 21 = B := ⟨_, rfl⟩
      have hBe : f (k + 23) % 21 = B := by rw [← hB, Int.tmod_eq_emod_of_nonneg (by omega)]
      have bA : 0 ≤ A ∧ A ≤ 20 := by omega
      have bB : 0 ≤ B ∧ B ≤ 20 := by omega
      have HS : Hid (fth f (k + 1) = fth f k ++ [⟨A - 10, B - 10⟩]) := hide (by rw [fth, hA, hB])
      have hsz := (unhide L).bel.size
      have hl0 := (unhide L).own.lies g rfl
      go_wp2_with fail
      refine ((unhide HAT) 2 _ rfl (by omega) _ (unhide L).bel).mono ?_
      rintro e w' ⟨rfl, hw⟩
      subst w'
      go_wp2_with fail
      refine ((unhide HAT) (k + 3) _ (by omega) (by omega) _ (unhide L).bel).mono ?_
      rintro e w' ⟨rfl, hw⟩
      subst w'
      go_wp2_with fail
      refine ((unhide HAT) (k + 23) _ (by omega) (by omega) _ (unhide L).bel).mono ?_
      rintro e w' ⟨rfl, hw⟩
      subst w'
      go_wp2_with (at_builtin; refine wpList_app_elG rfl (.tmp 37) (.tmp 51) 39 41 rfl Try.underlying39 infoPu rfl (by decide) (by decide) ⟨A - 10, B - 10⟩ [.int .i64 (A - 10), .int .i64 (B - 10)] rfl (two_cells _ _) (by simp [Value.oneCell']) (unhide L).own (fth_len _ _) rfl rfl rfl (by omega) (by omega) ?_; intro g9 c9 w9 o9 gr9 ha9; have L9 := hide ((unhide L).push o9 gr9); clear o9 gr9 ha9)
      go_roundw
      case rel => exact ⟨k + 1, g9, c9, by omega, rfl, by go_num, by rw [unhide HS]; exact L9⟩
      case measure => simp [intOf]; omega
    · have ek : k = N := by omega
      rw [ek] at L
      have hnl : ¬ (k : Int) < (N : Int) := by omega
      obtain ⟨ps, hps⟩ : ∃ ps, fth f N = ps := ⟨_, rfl⟩
      have HP : Hid (ps.length = N) := hide (by rw [← hps]; exact fth_len _ _)
      have HZ : Hid (PuSm ps) := hide (by rw [← hps]; exact fth_sm (fun i => ((unhide HF) i).1) _)
      rw [hps] at L
      clear hps hk hlt
      go_wp2_with fail
      refine ((unhide HAT) 2 _ rfl (by omega) _ (unhide L).bel).mono ?_
      rintro e w' ⟨rfl, hw⟩
      subst w'
      subst ek
      clear hnl
      go_wp2_with fail
      obtain ⟨U, rfl⟩ : ∃ U, U = wr := ⟨_, rfl⟩
      go_loopw [4, 7] (fun l i wr => ∃ (j m g c : Nat), j ≤ k ∧ Hid (m = k + j) ∧ l = .slice (some ⟨g, 0, none⟩) m c ∧ i = .int .i64 j ∧ Hid (Lst w wr (f 0) (-(f 1)) (.slice (some ⟨g, 0, none⟩) m c) (ps ++ bck ps j))) (fun _ i _ => k - (intOf i).toNat)
      case atStart => exact ⟨0, k, g, c, Nat.zero_le _, hide rfl, rfl, rfl, by rw [bck, List.append_nil]; exact L⟩
      case round =>
        clear L
        obtain ⟨j, m, g, c, hj, HM, rfl, rfl, L⟩ := hrel
        by_cases hlt : j < k
        · obtain ⟨M, hM⟩ : ∃ M : Nat, k = M + 1 := ⟨k - 1, by omega⟩
          obtain ⟨q, hq⟩ : ∃ q : Nat, M = q + j := ⟨M - j, by omega⟩
          have hs1 : (k : Int) - 1 = (M : Int) := by omega
          have hs2 : (M : Int) - (j : Int) = (q : Int) := by omega
          have hw1 : IntKind.i64.wrap (M : Int) = (M : Int) := by rw [IntKind.wrap_i64]; omega
          have hw2 : IntKind.i64.wrap (q : Int) = (q : Int) := by rw [IntKind.wrap_i64]; omega
          have hq0 : (0 : Int) ≤ (q : Int) := by omega
          have hq1 : (q : Int) < (m : Int) := by have := unhide HM; omega
          have hqk : q < k := by omega
          have HQ : Hid (k - 1 - j = q) := hide (by omega)
          have hm40 : m ≤ 40 := by have := unhide HM; omega
          obtain ⟨E, hE⟩ : ∃ E, elAt ps q = E := ⟨_, rfl⟩
          obtain ⟨ea, eb⟩ := E
          have hsm := (unhide HZ) q (by rw [unhide HP]; exact hqk)
          rw [hE] at hsm
          simp only at hsm
          have HLEN : Hid ((ps ++ bck ps j).length = m) := hide (by rw [List.length_append, bck_len, unhide HP, unhide HM])
          have hel : elAt (ps ++ bck ps j) q = ⟨ea, eb⟩ := by rw [elAt_l (by rw [unhide HP]; exact hqk)]; exact hE
          have ca : wr.cell? ⟨g, q * 2, none⟩ = some (.int .i64 ea) := by have h := ((unhide L).own.here (unhide HLEN) q (by omega) 0 (by omega)).1; rw [hel] at h; exact h
          have cb : wr.cell? ⟨g, q * 2 + 1, none⟩ = some (.int .i64 eb) := by have h := ((unhide L).own.here (unhide HLEN) q (by omega) 1 (by omega)).1; rw [hel] at h; exact h
          have HS : Hid (ps ++ bck ps (j + 1) = (ps ++ bck ps j) ++ [⟨IntKind.i64.wrap (-ea), IntKind.i64.wrap (-eb)⟩]) := hide (by rw [bck, unhide HP, unhide HQ, hE, List.append_assoc, show IntKind.i64.wrap (-ea) = -ea by rw [IntKind.wrap_i64]; omega, show IntKind.i64.wrap (-eb) = -eb by rw [IntKind.wrap_i64]; omega])
          have hsz := (unhide L).bel.size
          have hl0 := (unhide L).own.lies g rfl
          clear hel hE hM hq
          go_wp2_with fail
          go_region_law ((refine step_app_elD rfl (.tmp 60) (.tmp 80) 39 41 rfl Try.underlying39 infoPu rfl (by decide) (by decide) ⟨IntKind.i64.wrap (-ea), IntKind.i64.wrap (-eb)⟩ [.int .i64 (IntKind.i64.wrap (-ea)), .int .i64 (IntKind.i64.wrap (-eb))] rfl (two_cells _ _) (by simp [Value.oneCell']) (unhide L).own (unhide HLEN) (by simp [Act.eval]) rfl (by simp [Act.eval]) (by first | omega | (simp; omega)) (by omega) ?_; intro g9 c9 w9 o9 gr9 ha9))
          all_goals
            have L9 : Hid (Lst w w9 (f 0) (-(f 1)) (.slice (some ⟨g9, 0, none⟩) (m + 1) c9) (ps ++ bck ps (j + 1))) := hide (by rw [unhide HS]; exact (unhide L).push o9 gr9)
            clear o9 gr9 ha9
            go_wp2_with fail
            go_roundw
            case rel => exact ⟨j + 1, m + 1, g9, c9, by omega, hide (by have := unhide HM; omega), rfl, by go_num, L9⟩
            case measure => simp [intOf]; omega
        · have ej : j = k := by omega
          rw [ej] at L HM
          have hnl : ¬ (j : Int) < (k : Int) := by omega
          obtain ⟨E, H, hF⟩ := forth (d := ⟨f 0, -(f 1), 0, 0⟩) (n := k) (unhide HP) (by omega) (unhide HZ) (by simp only; omega) (by simp only; omega) rfl rfl
          obtain ⟨e0, e1, e2, e3⟩ := E
          obtain ⟨h0, h1, h2, h3⟩ := H
          obtain rfl : e2 = 0 := hF.vx
          obtain rfl : e3 = 0 := hF.vy
          have HFO := hide hF
          have hcap : m ≤ c := by obtain ⟨a', c', e', h', _⟩ := (unhide L).own.slice; simp only [Value.slice.injEq] at e'; omega
          have hkm : k ≤ m := by have := unhide HM; omega
          have hkc : (k : Int) ≤ (c : Int) := by omega
          have cd0 : wr.cell? ⟨w.heap.size, 0, none⟩ = some (.int .i64 (f 0)) := (unhide L).blk.c 0 (by simp)
          have cd1 : wr.cell? ⟨w.heap.size, 1, none⟩ = some (.int .i64 (-(f 1))) := (unhide L).blk.c 1 (by simp)
          have cd2 : wr.cell? ⟨w.heap.size, 2, none⟩ = some (.int .i64 0) := (unhide L).blk.c 2 (by simp)
          have cd3 : wr.cell? ⟨w.heap.size, 3, none⟩ = some (.int .i64 0) := (unhide L).blk.c 3 (by simp)
          clear hF ej hj
          go_wp2_with fail
          refine (implInertial_any _ _ _ _ _ _ _ _ _ (unhide L).own.row).mono ?_
          rintro e w1 ⟨rfl, b1⟩
          rw [(unhide HFO).whole, (unhide HFO).wholeR]
          dsimp only
          have L1 := hide ((unhide L).below b1)
          clear b1 L cd0 cd1 cd2 cd3 hnl hlt
          go_wp2_with fail
          obtain ⟨V, hV⟩ : ∃ V, V = w1.alloc (Obj.cells #[.int .i64 e0, .int .i64 e1, .int .i64 0, .int .i64 0] 38) := ⟨_, rfl⟩
          rw [← hV]
          have L2 : Hid (Lst w V (f 0) (-(f 1)) (.slice (some ⟨g, 0, none⟩) m c) (ps ++ bck ps k)) := hide (by rw [hV]; exact (unhide L1).below (bel1 _))
          have BE : Hid (Blk V w1.heap.size [.int .i64 e0, .int .i64 e1, .int .i64 0, .int .i64 0]) := hide (by rw [hV]; exact Blk.new _ _)
          obtain ⟨P, hP⟩ : ∃ P, w1.heap.size = P := ⟨_, rfl⟩
          rw [hP] at BE ⊢
          clear hV hP L1
          have R1 := hide ((unhide L2).own.row.front (unhide HP))
          have c0 : V.cell? ⟨w.heap.size, 0, none⟩ = some (.int .i64 (f 0)) := (unhide L2).blk.c 0 (by simp)
          have c1 : V.cell? ⟨w.heap.size, 1, none⟩ = some (.int .i64 (-(f 1))) := (unhide L2).blk.c 1 (by simp)
          have c2 : V.cell? ⟨w.heap.size, 2, none⟩ = some (.int .i64 0) := (unhide L2).blk.c 2 (by simp)
          have c3 : V.cell? ⟨w.heap.size, 3, none⟩ = some (.int .i64 0) := (unhide L2).blk.c 3 (by simp)
          have hA := inh_al V
          have hD := inh_dr V
          have hS := inh_st1 V
          have hS4 := inh_st V
          have bb : Below V.heap.size V V := Below.refl _ _
          have z3 := bb.size
          have n0 := World.new_ne V _ c0
          go_cut [10, 11] from 21 (fun p q wc => ∃ S, p = .pointer (some ⟨S, 0, none⟩) ∧ q = .bool true ∧ wc.cell? ⟨S, 0, none⟩ = some (.int .i64 h0) ∧ wc.cell? ⟨S, 1, none⟩ = some (.int .i64 h1) ∧ wc.cell? ⟨S, 2, none⟩ = some (.int .i64 h2) ∧ wc.cell? ⟨S, 3, none⟩ = some (.int .i64 h3) ∧ wc.cell? ⟨w.heap.size, 0, none⟩ = some (.int .i64 (f 0)) ∧ wc.cell? ⟨w.heap.size, 1, none⟩ = some (.int .i64 (-(f 1))) ∧ wc.cell? ⟨w.heap.size, 2, none⟩ = some (.int .i64 0) ∧ wc.cell? ⟨w.heap.size, 3, none⟩ = some (.int .i64 0) ∧ Below V.heap.size V wc)
          case first =>
            go_region_held3 (fun w' => w'.cell? ⟨w.heap.size, 0, none⟩ = some (.int .i64 (f 0)) ∧ w'.cell? ⟨w.heap.size, 1, none⟩ = some (.int .i64 (-(f 1))) ∧ w'.cell? ⟨w.heap.size, 2, none⟩ = some (.int .i64 0) ∧ w'.cell? ⟨w.heap.size, 3, none⟩ = some (.int .i64 0) ∧ Below V.heap.size V w') (go_keep)
              ((go_at_call 11; refine (implInertial_any _ _ _ _ _ _ _ _ _ ((unhide R1).below (by first | exact Below.refl _ _ | exact bel0d 1 | exact bel1 _ | exact bel1d _ 1))).mono ?_; rintro e w3 ⟨rfl, b3⟩; rw [(unhide HFO).half, (unhide HFO).halfR]; dsimp only; have H3 := inhK4 (by assumption) b3; (first | (have hs := inhNew b3; obtain ⟨s0, s1, s2, s3, g0, g1, g2, g3, ls⟩ := hs) | (have hs := inhNewD b3; obtain ⟨s0, s1, s2, s3, g0, g1, g2, g3, ls⟩ := hs) | skip); obtain ⟨c0, c1, c2, c3, bb⟩ := H3; have z3 := bb.size; have n0 := World.new_ne w3 _ c0; clear b3))
            all_goals (
              go_wp2
              go_meet
              case rel => exact ⟨_, rfl, rfl, by simp [go_sem, *], by simp [go_sem, *], by simp [go_sem, *], by simp [go_sem, *], by assumption⟩)
          case rest =>
            obtain ⟨S, rfl, rfl, t0, t1, t2, t3, _, _, _, _, bb⟩ := hcut
            have L3 := hide ((unhide L2).below bb)
            have BE3 := hide ((unhide BE).below bb)
            clear bb L2 BE R1 hA hD hS hS4 z3 n0 c0 c1 c2 c3
            obtain ⟨U, rfl⟩ : ∃ U, U = wc := ⟨_, rfl⟩
            have HBL : Hid ((bck ps k).length = m - k) := hide (by rw [bck_len]; have := unhide HM; omega)
            obtain ⟨A2, hA2⟩ : ∃ A2, (if c = k then some (⟨g, 0, none⟩ : Addr) else some ⟨g, k * 2, none⟩) = A2 := ⟨_, rfl⟩
            have HA2 := hide hA2
            have R2 : Hid (RowE 2 puC U A2 (m - k) (bck ps k)) := hide (by
              have h := (unhide L3).own.row.back (unhide HP)
              rw [unhide HBL] at h
              by_cases e : c = k
              · refine ⟨unhide HBL, by omega, fun i hi => ?_⟩
                have := unhide HM
                omega
              · rw [← hA2, if_neg e]; exact h)
            clear hA2
            have hmk : (m : Int) - (k : Int) = ((m - k : Nat) : Int) := by omega
            have hkm2 : (k : Int) ≤ (m : Int) := by omega
            have hA := inh_al U
            have hD := inh_dr U
            have hS := inh_st1 U
            have hS4 := inh_st U
            have bb : Below U.heap.size U U := Below.refl _ _
            have z3 := bb.size
            have n0 := World.new_ne U _ t0
            go_wp2_with fail
            go_cut [12, 13] from 21 (fun p q wd => ∃ S2, p = .pointer (some ⟨S2, 0, none⟩) ∧ q = .bool true ∧ wd.cell? ⟨S2, 0, none⟩ = some (.int .i64 e0) ∧ wd.cell? ⟨S2, 1, none⟩ = some (.int .i64 e1) ∧ wd.cell? ⟨S2, 2, none⟩ = some (.int .i64 0) ∧ wd.cell? ⟨S2, 3, none⟩ = some (.int .i64 0) ∧ wd.cell? ⟨S, 0, none⟩ = some (.int .i64 h0) ∧ wd.cell? ⟨S, 1, none⟩ = some (.int .i64 h1) ∧ wd.cell? ⟨S, 2, none⟩ = some (.int .i64 h2) ∧ wd.cell? ⟨S, 3, none⟩ = some (.int .i64 h3) ∧ Below U.heap.size U wd)
            case first =>
              go_region_held3 (fun w' => w'.cell? ⟨S, 0, none⟩ = some (.int .i64 h0) ∧ w'.cell? ⟨S, 1, none⟩ = some (.int .i64 h1) ∧ w'.cell? ⟨S, 2, none⟩ = some (.int .i64 h2) ∧ w'.cell? ⟨S, 3, none⟩ = some (.int .i64 h3) ∧ Below U.heap.size U w') (go_keep)
                ((go_at_call 11; rw [unhide HA2]; refine (implInertial_any _ _ _ _ _ _ _ _ _ ((unhide R2).below (by first | exact Below.refl _ _ | exact bel0d 1 | exact bel1 _ | exact bel1d _ 1))).mono ?_; rintro e w3 ⟨rfl, b3⟩; rw [(unhide HFO).rest, (unhide HFO).restR]; dsimp only; have H3 := inhK4 (by assumption) b3; (first | (have hs := inhNew b3; obtain ⟨s0, s1, s2, s3, g0, g1, g2, g3, ls⟩ := hs) | (have hs := inhNewD b3; obtain ⟨s0, s1, s2, s3, g0, g1, g2, g3, ls⟩ := hs) | skip); obtain ⟨t0, t1, t2, t3, bb⟩ := H3; have z3 := bb.size; have n0 := World.new_ne w3 _ t0; clear b3))
              all_goals (
                go_wp2
                go_meet
                case rel => exact ⟨_, rfl, rfl, by simp [go_sem, *], by simp [go_sem, *], by simp [go_sem, *], by simp [go_sem, *], by assumption⟩)
            case rest =>
              obtain ⟨S2, rfl, rfl, r0, r1, r2, r3, _, _, _, _, bb⟩ := hcut
              have L4 := hide ((unhide L3).below bb)
              have BE4 := hide ((unhide BE3).below bb)
              clear bb L3 BE3 R2 HA2 hA hD hS hS4 z3 n0 t0 t1 t2 t3 hmk hkm2 hkc hkm hcap
              obtain ⟨Z, rfl⟩ : ∃ Z, Z = wc := ⟨_, rfl⟩
              have ce0 : Z.cell? ⟨P, 0, none⟩ = some (.int .i64 e0) := (unhide BE4).c 0 (by simp)
              have ce1 : Z.cell? ⟨P, 1, none⟩ = some (.int .i64 e1) := (unhide BE4).c 1 (by simp)
              have ce2 : Z.cell? ⟨P, 2, none⟩ = some (.int .i64 0) := (unhide BE4).c 2 (by simp)
              have ce3 : Z.cell? ⟨P, 3, none⟩ = some (.int .i64 0) := (unhide BE4).c 3 (by simp)
              have b50 := (unhide HF) 50
              have b51 := (unhide HF) 51
              go_wp2_with fail
              refine ((unhide HAT) 50 _ rfl (by omega) _ (unhide L4).bel).mono ?_
              rintro e w' ⟨rfl, hw⟩
              subst w'
              go_wp2_with fail
              refine ((unhide HAT) 51 _ rfl (by omega) _ (unhide L4).bel).mono ?_
              rintro e w' ⟨rfl, hw⟩
              subst w'
              clear r0 r1 r2 r3 ce0 ce1 ce2 ce3
              obtain ⟨px, hpx⟩ : ∃ px, f 50 - 128 = px := ⟨_, rfl⟩
              obtain ⟨py, hpy⟩ : ∃ py, f 51 - 128 = py := ⟨_, rfl⟩
              have bpx : -128 ≤ px ∧ px ≤ 127 := by omega
              have bpy : -128 ≤ py ∧ py ≤ 127 := by omega
              have BBt : ∀ part, 0 ≤ part ∧ part ≤ 100 → blB (f 0) (-(f 1)) 0 0 px py part = true := fun part hp => by
                unfold blB dtB peB
                rw [in_ok (by omega), in_ok (by omega), in_ok (by omega), in_ok (by omega), in_ok (by omega), in_ok (by omega)]; rfl
              have HB100 := hide (BBt 100 (by omega))
              have HB0 := hide (BBt 0 (by omega))
              have HBS : Hid (bsB 0 0 0 7 px py = true) := hide (by
                unfold bsB peB
                rw [in_ok (by omega), in_ok (by omega), in_ok (by omega), in_ok (by omega)]; rfl)
              clear BBt
              obtain ⟨Y, hY⟩ : ∃ Y, Y = Z.alloc (Obj.cells #[.int .i64 px, .int .i64 py] 25) := ⟨_, rfl⟩
              have L5 : Hid (Lst w Y (f 0) (-(f 1)) (.slice (some ⟨g, 0, none⟩) m c) (ps ++ bck ps k)) := hide (by rw [hY]; exact (unhide L4).below (bel1 _))
              have BP5 : Hid (Blk Y Z.heap.size [.int .i64 px, .int .i64 py]) := hide (by rw [hY]; exact Blk.new _ _)
              have cd0 : Y.cell? ⟨w.heap.size, 0, none⟩ = some (.int .i64 (f 0)) := (unhide L5).blk.c 0 (by simp)
              have cd1 : Y.cell? ⟨w.heap.size, 1, none⟩ = some (.int .i64 (-(f 1))) := (unhide L5).blk.c 1 (by simp)
              have cd2 : Y.cell? ⟨w.heap.size, 2, none⟩ = some (.int .i64 0) := (unhide L5).blk.c 2 (by simp)
              have cd3 : Y.cell? ⟨w.heap.size, 3, none⟩ = some (.int .i64 0) := (unhide L5).blk.c 3 (by simp)
              rw [hY] at cd0 cd1 cd2 cd3
              have HY := hide hY
              clear hY L4 BE4
              go_wp2_with fail
              rw [← unhide HY]
              refine (implBlend_any _ _ _ _ _ _ _ _).mono ?_
              rintro e w5 ⟨rfl, b5⟩
              simp only [blX, blY, blU, blV, unhide HB100, if_true, blR_whole]
              obtain ⟨Q0, hQ0⟩ : ∃ Q0, Z.heap.size = Q0 := ⟨_, rfl⟩
              rw [hQ0] at BP5 ⊢
              have L6 := hide ((unhide L5).below b5)
              have BP6 := hide ((unhide BP5).below b5)
              clear b5 L5 BP5 HY cd0 cd1 cd2 cd3 hQ0
              obtain ⟨Y6, hY6⟩ : ∃ Y, Y = w5.alloc (Obj.cells #[.int .i64 px, .int .i64 py, .int .i64 0, .int .i64 0] 38) := ⟨_, rfl⟩
              have L7 : Hid (Lst w Y6 (f 0) (-(f 1)) (.slice (some ⟨g, 0, none⟩) m c) (ps ++ bck ps k)) := hide (by rw [hY6]; exact (unhide L6).below (bel1 _))
              have BP7 : Hid (Blk Y6 Q0 [.int .i64 px, .int .i64 py]) := hide (by rw [hY6]; exact (unhide BP6).below (bel1 _))
              have BB7 : Hid (Blk Y6 w5.heap.size [.int .i64 px, .int .i64 py, .int .i64 0, .int .i64 0]) := hide (by rw [hY6]; exact Blk.new _ _)
              have cd0 : Y6.cell? ⟨w.heap.size, 0, none⟩ = some (.int .i64 (f 0)) := (unhide L7).blk.c 0 (by simp)
              have cd1 : Y6.cell? ⟨w.heap.size, 1, none⟩ = some (.int .i64 (-(f 1))) := (unhide L7).blk.c 1 (by simp)
              have cd2 : Y6.cell? ⟨w.heap.size, 2, none⟩ = some (.int .i64 0) := (unhide L7).blk.c 2 (by simp)
              have cd3 : Y6.cell? ⟨w.heap.size, 3, none⟩ = some (.int .i64 0) := (unhide L7).blk.c 3 (by simp)
              have cp0 : Y6.cell? ⟨Q0, 0, none⟩ = some (.int .i64 px) := (unhide BP7).c 0 (by simp)
              have cp1 : Y6.cell? ⟨Q0, 1, none⟩ = some (.int .i64 py) := (unhide BP7).c 1 (by simp)
              rw [hY6] at cd0 cd1 cd2 cd3 cp0 cp1
              have HY6 := hide hY6
              clear hY6 L6 BP6
              go_wp2_with fail
              rw [← unhide HY6]
              refine (implBlend_any _ _ _ _ _ _ _ _).mono ?_
              rintro e w6 ⟨rfl, b6⟩
              simp only [blX, blY, blU, blV, unhide HB0, if_true, blR_none]
              obtain ⟨Q1, hQ1⟩ : ∃ Q1, w5.heap.size = Q1 := ⟨_, rfl⟩
              rw [hQ1] at BB7 ⊢
              have L8 := hide ((unhide L7).below b6)
              have BP8 := hide ((unhide BP7).below b6)
              have BB8 := hide ((unhide BB7).below b6)
              clear b6 L7 BP7 BB7 HY6 cd0 cd1 cd2 cd3 cp0 cp1 hQ1
              obtain ⟨Y8, hY8⟩ : ∃ Y, Y = w6.alloc (Obj.cells #[.int .i64 (f 0), .int .i64 (-(f 1)), .int .i64 0, .int .i64 0] 38) := ⟨_, rfl⟩
              have L9 : Hid (Lst w Y8 (f 0) (-(f 1)) (.slice (some ⟨g, 0, none⟩) m c) (ps ++ bck ps k)) := hide (by rw [hY8]; exact (unhide L8).below (bel1 _))
              have BP9 : Hid (Blk Y8 Q0 [.int .i64 px, .int .i64 py]) := hide (by rw [hY8]; exact (unhide BP8).below (bel1 _))
              have BB9 : Hid (Blk Y8 Q1 [.int .i64 px, .int .i64 py, .int .i64 0, .int .i64 0]) := hide (by rw [hY8]; exact (unhide BB8).below (bel1 _))
              have BC9 : Hid (Blk Y8 w6.heap.size [.int .i64 (f 0), .int .i64 (-(f 1)), .int .i64 0, .int .i64 0]) := hide (by rw [hY8]; exact Blk.new _ _)
              have cp0 : Y8.cell? ⟨Q0, 0, none⟩ = some (.int .i64 px) := (unhide BP9).c 0 (by simp)
              have cp1 : Y8.cell? ⟨Q0, 1, none⟩ = some (.int .i64 py) := (unhide BP9).c 1 (by simp)
              rw [hY8] at cp0 cp1
              have HY8 := hide hY8
              clear hY8 L8 BP8 BB8
              go_wp2_with fail
              rw [← unhide HY8]
              refine (implBeside_any _ _ _ _ _ _ _).mono ?_
              rintro e w7 ⟨rfl, b7⟩
              rw [bs_seven]
              simp only [unhide HBS, if_true]
              obtain ⟨Q2, hQ2⟩ : ∃ Q2, w6.heap.size = Q2 := ⟨_, rfl⟩
              rw [hQ2] at BC9 ⊢
              have LA := hide ((unhide L9).below b7)
              have BPA := hide ((unhide BP9).below b7)
              have BBA := hide ((unhide BB9).below b7)
              have BCA := hide ((unhide BC9).below b7)
              clear b7 L9 BP9 BB9 BC9 HY8 cp0 cp1 hQ2
              have bS : 0 ≤ sizeI px ∧ sizeI px ≤ 128 := by unfold sizeI; split <;> omega
              obtain ⟨sz, hsz9⟩ : ∃ sz, sizeI px = sz := ⟨_, rfl⟩
              have HSZ := hide hsz9
              rw [hsz9] at bS ⊢
              clear hsz9
              have mP := mulBd (s := px) (d := sz) (A := 128) (B := 128) (by omega) (by omega) (by omega) (by omega) (by omega) (by omega)
              have cd0 : w7.cell? ⟨w.heap.size, 0, none⟩ = some (.int .i64 (f 0)) := (unhide LA).blk.c 0 (by simp)
              have cd1 : w7.cell? ⟨w.heap.size, 1, none⟩ = some (.int .i64 (-(f 1))) := (unhide LA).blk.c 1 (by simp)
              have cd2 : w7.cell? ⟨w.heap.size, 2, none⟩ = some (.int .i64 0) := (unhide LA).blk.c 2 (by simp)
              have cd3 : w7.cell? ⟨w.heap.size, 3, none⟩ = some (.int .i64 0) := (unhide LA).blk.c 3 (by simp)
              have cp0 : w7.cell? ⟨Q0, 0, none⟩ = some (.int .i64 px) := (unhide BPA).c 0 (by simp)
              have cp1 : w7.cell? ⟨Q0, 1, none⟩ = some (.int .i64 py) := (unhide BPA).c 1 (by simp)
              have cb0 : w7.cell? ⟨Q1, 0, none⟩ = some (.int .i64 px) := (unhide BBA).c 0 (by simp)
              have cb1 : w7.cell? ⟨Q1, 1, none⟩ = some (.int .i64 py) := (unhide BBA).c 1 (by simp)
              have cb2 : w7.cell? ⟨Q1, 2, none⟩ = some (.int .i64 0) := (unhide BBA).c 2 (by simp)
              have cb3 : w7.cell? ⟨Q1, 3, none⟩ = some (.int .i64 0) := (unhide BBA).c 3 (by simp)
              have cc0 : w7.cell? ⟨Q2, 0, none⟩ = some (.int .i64 (f 0)) := (unhide BCA).c 0 (by simp)
              have cc1 : w7.cell? ⟨Q2, 1, none⟩ = some (.int .i64 (-(f 1))) := (unhide BCA).c 1 (by simp)
              have cc2 : w7.cell? ⟨Q2, 2, none⟩ = some (.int .i64 0) := (unhide BCA).c 2 (by simp)
              have cc3 : w7.cell? ⟨Q2, 3, none⟩ = some (.int .i64 0) := (unhide BCA).c 3 (by simp)
              go_wp2_with fail
              go_quiet ((go_at_call 14; first | exact Calls.quiet_of_same (size_is px _ (by omega) (unhide HSZ)) | exact quietSame (size_is px _ (by omega) (unhide HSZ))))
              go_wp2_with fail
              go_ret
              exact ⟨rfl, navDr (unhide LA).bel _⟩

theorem lawFnInertial (a : Option Addr) (len cap : Nat) (w : World) (hb : Bytes w a len) (hin : ∀ b off, a = some ⟨b, off, none⟩ → b < w.heap.size) :
    Calls Try.prog 4 #[.slice a len cap] w fun e w' => e = .returned (.bool true) ∧ Below w.heap.size w w' := by
  by_cases h : (1048576 : Int) < len
  · exact lawFnInertial_big a len cap w h
  · exact lawFnInertial_small a len cap w h hb hin

end Go.Proofs.Ytidgkkldhnckeae
