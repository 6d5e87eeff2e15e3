/-
  The law FnBurnt returns true at every list of bytes and writes nothing that was there: the walk. No condition.
-/
import Derived.Test.YtigpemoicfdfcaaDrawnOk
import Derived.Deep.DrawnRows
namespace Go.Proofs.Ytigpemoicfdfcaa
open Go.RowKit
attribute [local go_sem ↓] Go.wp_at_zero Go.wp_at_succ

theorem row21 (w : World) (x y : Int) (T : TypeId) (hx : -9223372036854775808 ≤ x ∧ x ≤ 9223372036854775807) (hy : -9223372036854775808 ≤ y ∧ y ≤ 9223372036854775807) : Row2 (w.alloc (Obj.cells #[.int .i64 x, .int .i64 y] T)) (some ⟨w.heap.size, 0, none⟩) 1 [(x, y)] := by
  refine ⟨rfl, by omega, fun i hi => ⟨_, _, rfl, ?_, ?_⟩, fun i => ?_⟩
  · obtain rfl : i = 0 := by omega
    simp [fstAt, go_sem]
  · obtain rfl : i = 0 := by omega
    simp [sndAt, go_sem]
  · rcases i with _ | i
    · exact ⟨hx, hy⟩
    · simp [fstAt, sndAt]

set_option maxRecDepth 20000 in
set_option maxHeartbeats 8000000 in
theorem lawFnBurnt_big (a : Option Addr) (len cap : Nat) (w : World) (h : (1048576 : Int) < len) :
    Calls Try.prog 7 #[.slice a len cap] w fun e w' => e = .returned (.bool true) ∧ Below w.heap.size w w' := by
  have hd : decide ((1048576 : Int) < len) = true := by simpa using h
  go_enter Try.func7, Try.ntmps7
  go_wp2_with fail
  refine (big_any a len cap _).mono ?_
  rintro e w' ⟨rfl, hw⟩
  subst w'
  rw [hd]
  go_wp2
  go_ret
  exact ⟨rfl, Below.refl _ _⟩

set_option maxRecDepth 20000 in
set_option maxHeartbeats 8000000 in
theorem lawFnBurnt_small (a : Option Addr) (len cap : Nat) (w : World) (h : ¬ (1048576 : Int) < len) (hb : Bytes w a len) (hin : ∀ b off, a = some ⟨b, off, none⟩ → b < w.heap.size) :
    Calls Try.prog 7 #[.slice a len cap] w fun e w' => e = .returned (.bool true) ∧ Below w.heap.size w w' := by
  have hd0 : decide ((1048576 : Int) < len) = false := by simpa using h
  have HY := hide hb
  have HIN := hide hin
  have HL : Hid (len ≤ 1048576) := hide (by omega)
  clear hb hin h
  go_enter Try.func7, Try.ntmps7
  go_wp2_with fail
  refine (big_any a len cap _).mono ?_
  rintro e w' ⟨rfl, hw⟩
  subst w'
  rw [hd0]
  clear hd0
  go_wp2_with fail
  refine (drawFuel_any a len cap _ (unhide HY) (unhide HIN)).mono ?_
  rintro e w1 ⟨g1, g2, g3, tb, tc, p, q, r, m, d, ts, rfl, hR1, hR2, hR3, hT, hp, hq, hr, hm, hd, hlen, hit, hB⟩
  have HOK : Hid (∀ step, 1 ≤ step ∧ step ≤ 100 → orderOk [1, 400 + p, 2000] [-20, -10 - q, -15] [20, 5 + r, 18] m (m * d) step ts = true) := hide fun step hs => drawn_ok hp hq hr hm hd hlen.2 hit hs
  obtain ⟨ms, hms⟩ : ∃ ms, ms = [1, 400 + p, 2000] := ⟨_, rfl⟩
  obtain ⟨fs, hfs⟩ : ∃ fs, fs = [-20, -10 - q, -15] := ⟨_, rfl⟩
  obtain ⟨gs, hgs⟩ : ∃ gs, gs = [20, 5 + r, 18] := ⟨_, rfl⟩
  obtain ⟨dq, hdq⟩ : ∃ dq, dq = m * d := ⟨_, rfl⟩
  rw [← hms] at HOK hR1
  rw [← hfs] at HOK hR2
  rw [← hgs] at HOK hR3
  rw [← hdq] at HOK ⊢
  have HIT := hide hit
  clear hms hfs hgs hdq hp hq hr hd hit
  obtain ⟨hl1, hl4⟩ := hlen
  have hv := bel2 (w := w1) (Obj.cells #[.slice (some ⟨g1, 0, none⟩) 3 3, .slice (some ⟨g2, 0, none⟩) 3 3, .slice (some ⟨g3, 0, none⟩) 3 3] 58) (Obj.cells #[.int .i64 m, .int .i64 dq] 54)
  have HY1 := hide (((unhide HY).below hB).below hv)
  have HBV := hide (hB.trans (hv.mono hB.size))
  have R1 := hide (hR1.below hv)
  have R2 := hide (hR2.below hv)
  have R3 := hide (hR3.below hv)
  have RT := hide (hT.below hv)
  obtain ⟨V, hV⟩ : ∃ V, V = (w1.alloc (Obj.cells #[.slice (some ⟨g1, 0, none⟩) 3 3, .slice (some ⟨g2, 0, none⟩) 3 3, .slice (some ⟨g3, 0, none⟩) 3 3] 58)).alloc (Obj.cells #[.int .i64 m, .int .i64 dq] 54) := ⟨_, rfl⟩
  have z0 : V.cell? ⟨w1.heap.size, 0, none⟩ = some (.slice (some ⟨g1, 0, none⟩) 3 3) := by rw [hV]; simp [go_sem]
  have z1 : V.cell? ⟨w1.heap.size, 1, none⟩ = some (.slice (some ⟨g2, 0, none⟩) 3 3) := by rw [hV]; simp [go_sem]
  have z2 : V.cell? ⟨w1.heap.size, 2, none⟩ = some (.slice (some ⟨g3, 0, none⟩) 3 3) := by rw [hV]; simp [go_sem]
  have t0 : V.cell? ⟨w1.heap.size + 1, 0, none⟩ = some (.int .i64 m) := by rw [hV]; simp [go_sem]
  have t1 : V.cell? ⟨w1.heap.size + 1, 1, none⟩ = some (.int .i64 dq) := by rw [hV]; simp [go_sem]
  have sV : V.heap.size = w1.heap.size + 2 := by rw [hV]; simp
  rw [← hV] at HY1 HBV R1 R2 R3 RT
  have HV := hide hV
  have SV := hide sV
  clear hV hv hB hR1 hR2 hR3 hT sV
  go_wp2_with fail
  rw [← unhide HV]
  clear HV
  refine (at_any a len cap 3 V (unhide HY1) (unhide HL) (by omega)).mono ?_
  rintro e w' ⟨x, rfl, hx, hw⟩
  subst w'
  go_wp2_with fail
  have hst : 5 ≤ 5 + x % 40 ∧ 5 + x % 40 ≤ 44 := by omega
  generalize 5 + x % 40 = step at *
  generalize x % 40 = y at *
  refine (implOrder_any _ _ _ 3 3 3 3 3 3 ms fs gs m dq step tb 0 ts.length tc ts V (unhide R1) (unhide R2) (unhide R3) (Nat.le_refl _) (Nat.le_refl _) (Nat.le_refl _) (unhide RT)).mono ?_
  have LAW := order_law (unhide HOK step (by omega))
  generalize orderRes ms fs gs m dq step ts = RES at *
  obtain ⟨P, ok⟩ := RES
  rintro e w2 ⟨pa, pc, rfl, oP, b2⟩
  simp only at LAW oP ⊢
  obtain ⟨hcode, hleft, hcan, hmany, h60, hflag, hlv⟩ := LAW
  have B2 := hide ((unhide HBV).trans (b2.mono (unhide HBV).size))
  have z0 := (b2.cell (p := ⟨w1.heap.size, 0, none⟩) (by simp; have := unhide SV; omega)).trans z0
  have z1 := (b2.cell (p := ⟨w1.heap.size, 1, none⟩) (by simp; have := unhide SV; omega)).trans z1
  have z2 := (b2.cell (p := ⟨w1.heap.size, 2, none⟩) (by simp; have := unhide SV; omega)).trans z2
  have t0 := (b2.cell (p := ⟨w1.heap.size + 1, 0, none⟩) (by simp; have := unhide SV; omega)).trans t0
  have t1 := (b2.cell (p := ⟨w1.heap.size + 1, 1, none⟩) (by simp; have := unhide SV; omega)).trans t1
  have lt2 : Hid (w1.heap.size + 2 ≤ w2.heap.size) := hide (by have := b2.size; have := unhide SV; omega)
  have R1 := hide ((unhide R1).below b2)
  have R2 := hide ((unhide R2).below b2)
  have R3 := hide ((unhide R3).below b2)
  have RT := hide ((unhide RT).below b2)
  have OP := hide oP.row
  have HCODE := hide hcode
  have HLEFT := hide hleft
  have HCAN := hide hcan
  have HMANY := hide hmany
  have HFLAG := hide hflag
  have HLV := hide hlv
  clear b2 oP hcode hleft hcan hmany hflag hlv
  go_wp2_with fail
  refine (implBurnt_any tb 0 ts.length tc pa P.length pc ts P w2 (unhide RT) (unhide OP)).mono ?_
  rintro e w3 ⟨la, lc, rfl, oL, b3⟩
  rw [unhide HCODE]
  have hLl : (burntT ts P).length = ts.length := by rw [unhide HLEFT, afterB_len]
  have HGO : Hid (sumM (burntT ts P) ts.length = sumM ts ts.length - gone P P.length) := hide (by rw [unhide HLEFT]; exact gone_is _ (unhide HCAN))
  have HITL : Hid (∀ j, j < ts.length → itemB (fstAt (burntT ts P) j) (sndAt (burntT ts P) j) = true) := hide fun j hj => by rw [unhide HLEFT]; exact afterB_items (unhide HIT) _ (unhide HCAN) j (by rw [afterB_len]; exact hj)
  have HFLAG : Hid (ok = (decide (sumM (burntT ts P) ts.length = 0) && decide (leavesV ms fs gs m dq ts P = P.length))) := hide (by rw [unhide HLEFT]; exact unhide HFLAG)
  generalize burntT ts P = L at *
  rw [hLl] at oL ⊢
  rcases oL.form with ⟨_, h0⟩ | ⟨lb, lc', hv, hlb1, hlb2, hx1, hx2⟩
  · rw [h0] at hLl; simp at hLl; omega
  have HLl := hide hLl
  simp only [Value.slice.injEq] at hv
  obtain ⟨rfl, hxx, rfl⟩ := hv
  clear hxx
  have B3 := hide ((unhide B2).trans (b3.mono (unhide B2).size))
  have z0 := (b3.cell (p := ⟨w1.heap.size, 0, none⟩) (by simp; have := unhide lt2; omega)).trans z0
  have z1 := (b3.cell (p := ⟨w1.heap.size, 1, none⟩) (by simp; have := unhide lt2; omega)).trans z1
  have z2 := (b3.cell (p := ⟨w1.heap.size, 2, none⟩) (by simp; have := unhide lt2; omega)).trans z2
  have t0 := (b3.cell (p := ⟨w1.heap.size + 1, 0, none⟩) (by simp; have := unhide lt2; omega)).trans t0
  have t1 := (b3.cell (p := ⟨w1.heap.size + 1, 1, none⟩) (by simp; have := unhide lt2; omega)).trans t1
  have lt3 : Hid (w1.heap.size + 2 ≤ w3.heap.size) := hide (by have := b3.size; have := unhide lt2; omega)
  have R1 := hide ((unhide R1).below b3)
  have R2 := hide ((unhide R2).below b3)
  have R3 := hide ((unhide R3).below b3)
  have RT := hide ((unhide RT).below b3)
  have OP := hide ((unhide OP).below b3)
  have OL := hide (show Row2 w3 (some ⟨lb, 0, none⟩) ts.length L from oL.row)
  clear b3 oL hLl hlb1 hlb2 hx1 hx2
  go_wp2_with fail
  go_loopw [11, 12, 14] (fun had has i wr => ∃ k : Nat, k ≤ ts.length ∧ had = .int .i64 (sumM ts k) ∧ has = .int .i64 (sumM L k) ∧ i = .int .i64 k ∧ wr = w3) (fun _ _ i _ => ts.length - (intOf i).toNat)
  case atStart => exact ⟨0, Nat.zero_le _, rfl, rfl, rfl, rfl⟩
  case round =>
    obtain ⟨k, hk, rfl, rfl, rfl, hwr⟩ := hrel
    subst hwr
    have bd1 := (sum_bd (ps := ts) k (fun j hj => unhide HIT j (by omega))).1
    have bd2 := (sum_bd (ps := L) k (fun j hj => unhide HITL j (by omega))).1
    by_cases hlt : k < ts.length
    · have f1 := item_facts (unhide HIT k hlt)
      have f2 := item_facts (unhide HITL k hlt)
      have ca : wr.cell? ⟨tb, k * 2, none⟩ = some (.int .i64 (fstAt ts k)) := by
        rcases (unhide RT).open_ with ⟨h0, _⟩ | ⟨bb, off, ha, _, hc⟩
        · omega
        · simp only [Option.some.injEq, Addr.mk.injEq, and_true] at ha
          obtain ⟨rfl, rfl⟩ := ha
          simpa using (hc k hlt).1
      have cb : wr.cell? ⟨lb, k * 2, none⟩ = some (.int .i64 (fstAt L k)) := by
        rcases (unhide OL).open_ with ⟨h0, _⟩ | ⟨bb, off, ha, _, hc⟩
        · omega
        · simp only [Option.some.injEq, Addr.mk.injEq, and_true] at ha
          obtain ⟨rfl, rfl⟩ := ha
          simpa using (hc k hlt).1
      have lca := block_lt_of_cell ca
      have lcb := block_lt_of_cell cb
      have hi1 : (k : Int) < (ts.length : Int) := by omega
      have hn1 : Hid (sumM ts (k + 1) = sumM ts k + fstAt ts k) := hide (sumM_succ _ _)
      have hn2 : Hid (sumM L (k + 1) = sumM L k + fstAt L k) := hide (sumM_succ _ _)
      have hle : sumM ts k ≤ 40000 ∧ 0 ≤ sumM ts k ∧ sumM L k ≤ 40000 ∧ 0 ≤ sumM L k := by omega
      have hf : (0 ≤ fstAt ts k ∧ fstAt ts k ≤ 10000) ∧ (0 ≤ fstAt L k ∧ fstAt L k ≤ 10000) := by omega
      clear bd1 bd2 f1 f2
      go_wp2
      go_roundw
      case rel => exact ⟨k + 1, by omega, by rw [unhide hn1], by rw [unhide hn2], by go_num, trivial⟩
      case measure => simp [intOf]; omega
    · have hkk : k = ts.length := by omega
      subst hkk
      have hi1 : ¬ (ts.length : Int) < (ts.length : Int) := by omega
      have hHS : Hid (sumM ts ts.length - sumM L ts.length = gone P P.length) := hide (by have := unhide HGO; omega)
      have hle : (sumM ts ts.length ≤ 40000 ∧ 0 ≤ sumM ts ts.length) ∧ (sumM L ts.length ≤ 40000 ∧ 0 ≤ sumM L ts.length) := by omega
      have HLE := hide hle
      clear bd1 bd2 hlt hi1 hle
      generalize hH : sumM ts ts.length = H at *
      generalize hS : sumM L ts.length = S at *
      clear hH hS HGO HITL HLl
      go_wp2_with fail
      go_loopw [13, 15] (fun go i wr' => ∃ k : Nat, k ≤ P.length ∧ go = .int .i64 (gone P k) ∧ i = .int .i64 k ∧ wr' = wr) (fun _ i _ => P.length - (intOf i).toNat)
      case atStart => exact ⟨0, Nat.zero_le _, rfl, rfl, rfl⟩
      case round =>
        obtain ⟨k, hk, rfl, rfl, hwr⟩ := hrel
        subst hwr
        have bd := gone_bd k (fun j hj => unhide HMANY j (by omega)) (by omega)
        by_cases hlt : k < P.length
        · rcases (unhide OP).open_ with ⟨h0, _⟩ | ⟨bb, off, rfl, _, hc⟩
          · omega
          obtain ⟨_, cb⟩ := hc k hlt
          have lcb := block_lt_of_cell cb
          have hi1 : (k : Int) < (P.length : Int) := by omega
          have hm := unhide HMANY k hlt
          have hn1 : Hid (gone P (k + 1) = gone P k + sndAt P k) := hide (gone_succ _ _)
          have hm1 : ¬ step < sndAt P k := by omega
          have hm2 : ¬ sndAt P k < 1 := by omega
          have hle : 0 ≤ gone P k ∧ gone P k ≤ 600000 := by omega
          clear bd hc
          go_wp2
          go_roundw
          case rel => exact ⟨k + 1, by omega, by rw [unhide hn1], by go_num, trivial⟩
          case measure => simp [intOf]; omega
        · have hkk : k = P.length := by omega
          subst hkk
          have hHS := unhide hHS
          generalize gone P P.length = G at *
          have hle := unhide HLE
          clear hlt
          have HTT := hide (tanks_good (ts := ts) (by omega) (unhide HIT))
          have hi1 : ¬ (P.length : Int) < (P.length : Int) := by omega
          have hflag := unhide HFLAG
          have hlv := unhide HLV
          have hG : 0 ≤ G ∧ G ≤ 600000 := by omega
          clear bd hk HOK HLEFT HCAN HMANY HCODE
          by_cases hS : S = 0
          · subst hS
            by_cases hv : leavesV ms fs gs m dq ts P = (P.length : Int)
            · obtain rfl : ok = true := by simpa [hv] using hflag
              clear hflag hlv
              have HVV := hide hv
              clear hv
              go_wp2_with fail
              refine (implLeaves_any _ _ _ 3 3 3 3 3 3 ms fs gs m dq tb 0 ts.length tc pa P.length pc ts P wr (unhide R1) (unhide R2) (unhide R3) (Nat.le_refl _) (Nat.le_refl _) (Nat.le_refl _) (unhide RT) (unhide OP)).mono ?_
              rintro e w4 ⟨rfl, bb⟩
              have B4 := hide ((unhide B3).trans (bb.mono (unhide B3).size))
              have z0 := (bb.cell (p := ⟨w1.heap.size, 0, none⟩) (by simp; have := unhide lt3; omega)).trans z0
              have z1 := (bb.cell (p := ⟨w1.heap.size, 1, none⟩) (by simp; have := unhide lt3; omega)).trans z1
              have z2 := (bb.cell (p := ⟨w1.heap.size, 2, none⟩) (by simp; have := unhide lt3; omega)).trans z2
              have t0 := (bb.cell (p := ⟨w1.heap.size + 1, 0, none⟩) (by simp; have := unhide lt3; omega)).trans t0
              have t1 := (bb.cell (p := ⟨w1.heap.size + 1, 1, none⟩) (by simp; have := unhide lt3; omega)).trans t1
              have lt4 : Hid (w1.heap.size + 2 ≤ w4.heap.size) := hide (by have := bb.size; have := unhide lt3; omega)
              have R1 := hide ((unhide R1).below bb)
              have R2 := hide ((unhide R2).below bb)
              have R3 := hide ((unhide R3).below bb)
              have RT := hide ((unhide RT).below bb)
              have OP := hide ((unhide OP).below bb)
              clear bb
              rw [unhide HVV]
              by_cases hP : (0 : Int) < (P.length : Int)
              · go_wp2_with fail
                refine (implLeaves_any _ _ _ 3 3 3 3 3 3 ms fs gs m dq tb 0 ts.length tc pa P.length pc ts P w4 (unhide R1) (unhide R2) (unhide R3) (Nat.le_refl _) (Nat.le_refl _) (Nat.le_refl _) (unhide RT) (unhide OP)).mono ?_
                rintro e w5 ⟨rfl, bb⟩
                have B5 := hide ((unhide B4).trans (bb.mono (unhide B4).size))
                have z0 := (bb.cell (p := ⟨w1.heap.size, 0, none⟩) (by simp; have := unhide lt4; omega)).trans z0
                have z1 := (bb.cell (p := ⟨w1.heap.size, 1, none⟩) (by simp; have := unhide lt4; omega)).trans z1
                have z2 := (bb.cell (p := ⟨w1.heap.size, 2, none⟩) (by simp; have := unhide lt4; omega)).trans z2
                have t0 := (bb.cell (p := ⟨w1.heap.size + 1, 0, none⟩) (by simp; have := unhide lt4; omega)).trans t0
                have t1 := (bb.cell (p := ⟨w1.heap.size + 1, 1, none⟩) (by simp; have := unhide lt4; omega)).trans t1
                have lt5 : Hid (w1.heap.size + 2 ≤ w5.heap.size) := hide (by have := bb.size; have := unhide lt4; omega)
                have R1 := hide ((unhide R1).below bb)
                have R2 := hide ((unhide R2).below bb)
                have R3 := hide ((unhide R3).below bb)
                have RT := hide ((unhide RT).below bb)
                have OP := hide ((unhide OP).below bb)
                clear bb
                rw [unhide HVV]
                have hbX := bel1 (w := w5) (Obj.cells #[.int .i64 (ts.length : Int), .int .i64 1] 72)
                have RN := hide (row21 w5 (ts.length : Int) 1 72 (by omega) (by omega))
                have RX := hide ((unhide RT).below hbX)
                have BX := hide ((unhide B5).trans (hbX.mono (unhide B5).size))
                clear hbX
                go_wp2_with fail
                refine (implBurnt_any tb 0 ts.length tc (some ⟨w5.heap.size, 0, none⟩) 1 1 ts [((ts.length : Int), 1)] _ (unhide RX) (unhide RN)).mono ?_
                rintro e wZ ⟨ya, yc, rfl, _, bZ⟩
                rw [(burnt_none (unhide HTT)).1, (burnt_none (unhide HTT)).2]
                have BZ := hide ((unhide BX).trans (bZ.mono (unhide BX).size))
                clear bZ
                go_wp2
                go_ret
                exact ⟨rfl, unhide BZ⟩
              · have hbX := bel1 (w := w4) (Obj.cells #[.int .i64 (ts.length : Int), .int .i64 1] 72)
                have RN := hide (row21 w4 (ts.length : Int) 1 72 (by omega) (by omega))
                have RX := hide ((unhide RT).below hbX)
                have BX := hide ((unhide B4).trans (hbX.mono (unhide B4).size))
                clear hbX
                go_wp2_with fail
                refine (implBurnt_any tb 0 ts.length tc (some ⟨w4.heap.size, 0, none⟩) 1 1 ts [((ts.length : Int), 1)] _ (unhide RX) (unhide RN)).mono ?_
                rintro e wZ ⟨ya, yc, rfl, _, bZ⟩
                rw [(burnt_none (unhide HTT)).1, (burnt_none (unhide HTT)).2]
                have BZ := hide ((unhide BX).trans (bZ.mono (unhide BX).size))
                clear bZ
                go_wp2
                go_ret
                exact ⟨rfl, unhide BZ⟩
            · obtain rfl : ok = false := by simpa [hv] using hflag
              have hP : ¬ (0 : Int) < (P.length : Int) := fun h => hv (hlv (by omega))
              clear hflag hlv
              have HVV := hide hv
              clear hv
              go_wp2_with fail
              refine (implLeaves_any _ _ _ 3 3 3 3 3 3 ms fs gs m dq tb 0 ts.length tc pa P.length pc ts P wr (unhide R1) (unhide R2) (unhide R3) (Nat.le_refl _) (Nat.le_refl _) (Nat.le_refl _) (unhide RT) (unhide OP)).mono ?_
              rintro e w4 ⟨rfl, bb⟩
              have B4 := hide ((unhide B3).trans (bb.mono (unhide B3).size))
              have z0 := (bb.cell (p := ⟨w1.heap.size, 0, none⟩) (by simp; have := unhide lt3; omega)).trans z0
              have z1 := (bb.cell (p := ⟨w1.heap.size, 1, none⟩) (by simp; have := unhide lt3; omega)).trans z1
              have z2 := (bb.cell (p := ⟨w1.heap.size, 2, none⟩) (by simp; have := unhide lt3; omega)).trans z2
              have t0 := (bb.cell (p := ⟨w1.heap.size + 1, 0, none⟩) (by simp; have := unhide lt3; omega)).trans t0
              have t1 := (bb.cell (p := ⟨w1.heap.size + 1, 1, none⟩) (by simp; have := unhide lt3; omega)).trans t1
              have lt4 : Hid (w1.heap.size + 2 ≤ w4.heap.size) := hide (by have := bb.size; have := unhide lt3; omega)
              have R1 := hide ((unhide R1).below bb)
              have R2 := hide ((unhide R2).below bb)
              have R3 := hide ((unhide R3).below bb)
              have RT := hide ((unhide RT).below bb)
              have OP := hide ((unhide OP).below bb)
              clear bb
              have hvv := unhide HVV
              clear HVV HLV HFLAG
              generalize leavesV ms fs gs m dq ts P = lv at *
              have hbX := bel1 (w := w4) (Obj.cells #[.int .i64 (ts.length : Int), .int .i64 1] 72)
              have RN := hide (row21 w4 (ts.length : Int) 1 72 (by omega) (by omega))
              have RX := hide ((unhide RT).below hbX)
              have BX := hide ((unhide B4).trans (hbX.mono (unhide B4).size))
              clear hbX
              go_wp2_with fail
              refine (implBurnt_any tb 0 ts.length tc (some ⟨w4.heap.size, 0, none⟩) 1 1 ts [((ts.length : Int), 1)] _ (unhide RX) (unhide RN)).mono ?_
              rintro e wZ ⟨ya, yc, rfl, _, bZ⟩
              rw [(burnt_none (unhide HTT)).1, (burnt_none (unhide HTT)).2]
              have BZ := hide ((unhide BX).trans (bZ.mono (unhide BX).size))
              clear bZ
              go_wp2
              go_ret
              exact ⟨rfl, unhide BZ⟩
          · obtain rfl : ok = false := by simpa [hS] using hflag
            clear hflag
            by_cases hP : (0 : Int) < (P.length : Int)
            · have HVV := hide (hlv (by omega))
              clear hlv
              go_wp2_with fail
              refine (implLeaves_any _ _ _ 3 3 3 3 3 3 ms fs gs m dq tb 0 ts.length tc pa P.length pc ts P wr (unhide R1) (unhide R2) (unhide R3) (Nat.le_refl _) (Nat.le_refl _) (Nat.le_refl _) (unhide RT) (unhide OP)).mono ?_
              rintro e w4 ⟨rfl, bb⟩
              have B4 := hide ((unhide B3).trans (bb.mono (unhide B3).size))
              have z0 := (bb.cell (p := ⟨w1.heap.size, 0, none⟩) (by simp; have := unhide lt3; omega)).trans z0
              have z1 := (bb.cell (p := ⟨w1.heap.size, 1, none⟩) (by simp; have := unhide lt3; omega)).trans z1
              have z2 := (bb.cell (p := ⟨w1.heap.size, 2, none⟩) (by simp; have := unhide lt3; omega)).trans z2
              have t0 := (bb.cell (p := ⟨w1.heap.size + 1, 0, none⟩) (by simp; have := unhide lt3; omega)).trans t0
              have t1 := (bb.cell (p := ⟨w1.heap.size + 1, 1, none⟩) (by simp; have := unhide lt3; omega)).trans t1
              have lt4 : Hid (w1.heap.size + 2 ≤ w4.heap.size) := hide (by have := bb.size; have := unhide lt3; omega)
              have R1 := hide ((unhide R1).below bb)
              have R2 := hide ((unhide R2).below bb)
              have R3 := hide ((unhide R3).below bb)
              have RT := hide ((unhide RT).below bb)
              have OP := hide ((unhide OP).below bb)
              clear bb
              rw [unhide HVV]
              have hbX := bel1 (w := w4) (Obj.cells #[.int .i64 (ts.length : Int), .int .i64 1] 72)
              have RN := hide (row21 w4 (ts.length : Int) 1 72 (by omega) (by omega))
              have RX := hide ((unhide RT).below hbX)
              have BX := hide ((unhide B4).trans (hbX.mono (unhide B4).size))
              clear hbX
              go_wp2_with fail
              refine (implBurnt_any tb 0 ts.length tc (some ⟨w4.heap.size, 0, none⟩) 1 1 ts [((ts.length : Int), 1)] _ (unhide RX) (unhide RN)).mono ?_
              rintro e wZ ⟨ya, yc, rfl, _, bZ⟩
              rw [(burnt_none (unhide HTT)).1, (burnt_none (unhide HTT)).2]
              have BZ := hide ((unhide BX).trans (bZ.mono (unhide BX).size))
              clear bZ
              go_wp2
              go_ret
              exact ⟨rfl, unhide BZ⟩
            · clear hlv
              have hbX := bel1 (w := wr) (Obj.cells #[.int .i64 (ts.length : Int), .int .i64 1] 72)
              have RN := hide (row21 wr (ts.length : Int) 1 72 (by omega) (by omega))
              have RX := hide ((unhide RT).below hbX)
              have BX := hide ((unhide B3).trans (hbX.mono (unhide B3).size))
              clear hbX
              go_wp2_with fail
              refine (implBurnt_any tb 0 ts.length tc (some ⟨wr.heap.size, 0, none⟩) 1 1 ts [((ts.length : Int), 1)] _ (unhide RX) (unhide RN)).mono ?_
              rintro e wZ ⟨ya, yc, rfl, _, bZ⟩
              rw [(burnt_none (unhide HTT)).1, (burnt_none (unhide HTT)).2]
              have BZ := hide ((unhide BX).trans (bZ.mono (unhide BX).size))
              clear bZ
              go_wp2
              go_ret
              exact ⟨rfl, unhide BZ⟩

theorem lawFnBurnt (a : Option Addr) (len cap : Nat) (w : World) (hb : Bytes w a len) (hin : ∀ b off, a = some ⟨b, off, none⟩ → b < w.heap.size) :
    Calls Try.prog 7 #[.slice a len cap] w fun e w' => e = .returned (.bool true) ∧ Below w.heap.size w w' := by
  by_cases h : (1048576 : Int) < len
  · exact lawFnBurnt_big a len cap w h
  · exact lawFnBurnt_small a len cap w h hb hin

end Go.Proofs.Ytigpemoicfdfcaa
