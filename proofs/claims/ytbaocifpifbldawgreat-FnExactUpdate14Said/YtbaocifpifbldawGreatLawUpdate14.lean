/-
  The law FnExactUpdate14 returns true at every argument and writes nothing that was there: the walk. No condition.
-/
import Derived.Test.YtbaocifpifbldawGreatReg1
import Derived.Test.YtbaocifpifbldawGreatUpSpec14
import Derived.Test.YtbaocifpifbldawGreatUpImpl14
import Derived.Test.YtbaocifpifbldawGreatMarks1
import Derived.Test.YtbaocifpifbldawGreatWrMark
namespace Go.Proofs.YtbaocifpifbldawGreat
open Go.RowKit
theorem up_small (rs : List Wr) (z1 z2 z3 ts : List ByteArray) (ph : Int) : (up1 rs z1 z2 z3 ts ph).length ≤ ts.length ∧ (up2 rs z1 z2 z3 ts ph).length ≤ 30 ∧ (up3 rs z1 z2 z3 ts ph).length ≤ z3.length ∧ (upT rs z1 z2 z3 ts ph).length ≤ 90 := by
  cases hu : upB rs z1 z2 z3 ts ph with
  | false =>
    obtain ⟨e1, e2, e3, e4⟩ := up_no hu
    rw [e1, e2, e3, e4]
    simp
  | true =>
    obtain ⟨e1, e2, e3, e4⟩ := up_yes hu
    rw [e1, e2, e3, e4]
    unfold upB at hu
    simp only [Bool.and_eq_true] at hu
    have h30 := (wrB_facts hu.1.1.1).2
    have k2 := ltK_len rs ts z2 (tdR rs ts z2 (tkK ts z3 z3.length) ph 3) rs.length
    have k3 := tkK_len ts z3 z3.length
    have k4 := tdR_len rs ts z2 (tkK ts z3 z3.length) ph 3
    exact ⟨Nat.le_refl _, by omega, k3, by omega⟩
set_option maxRecDepth 20000 in
set_option maxHeartbeats 8000000 in
theorem lawUpdate14 (la1 : Option Addr) (ll1 lc1 : Nat) (rs : List Wr) (a1 a2 a3 : Option Addr) (l1 c1 l2 c2 l3 c3 : Nat) (z1 z2 z3 : List ByteArray) (ph : Int) (ta1 : Option Addr) (tl1 tc1 : Nat) (ts : List ByteArray) (w : World) (hr : RowW w la1 ll1 rs) (hp : PnIn w a1 a2 a3 l1 l2 l3 z1 z2 z3) (f1 : txFit l1 z1) (f2 : txFit l2 z2) (f3 : txFit l3 z3) (ht : RowE 1 stC w ta1 tl1 ts) (ft : txFit tl1 ts) :
    Calls Tryz.prog 3 #[.slice la1 ll1 lc1, .agg #[.slice a1 l1 c1, .slice a2 l2 c2, .slice a3 l3 c3], .int .i64 ph, .slice ta1 tl1 tc1] w fun x w' => x = .returned (.bool true) ∧ Below w.heap.size w w' := by
  have R0 := hide hr
  have P0 := hide hp
  have T0 := hide ht
  have HFI : Hid (∀ i, i < ll1 → wrFit (elAt rs i)) := hide (fun i hi => by obtain ⟨_, _, _, _, _, _, _, _, _, h⟩ := hr.cells i hi; exact h)
  have F1 := hide f1
  have F2 := hide f2
  have F3 := hide f3
  have FT := hide ft
  have E1 := hide hp.r1.len_eq
  have E2 := hide hp.r2.len_eq
  have E3 := hide hp.r3.len_eq
  have E4 := hide ht.len_eq
  clear hr hp f1 f2 f3 ht ft
  have hq2 : ((upB rs z1 z2 z3 ts ph) != (upB rs z1 z2 z3 ts ph)) = false := by simp
  go_enter Tryz.func3, Tryz.ntmps3
  go_wp2_with fail
  obtain ⟨w1, hw1⟩ : ∃ W, W = w.alloc (Obj.cells #[.slice a1 l1 c1, .slice a2 l2 c2, .slice a3 l3 c3] 25) := ⟨_, rfl⟩
  have PB : Hid (Blk w1 w.heap.size [.slice a1 l1 c1, .slice a2 l2 c2, .slice a3 l3 c3]) := hide (by rw [hw1]; exact Blk.new _ _)
  have B : Hid (Below w.heap.size w w1) := hide (by rw [hw1]; exact bel1 _)
  have Z1 : Hid (w.heap.size + 1 ≤ w1.heap.size) := hide (by rw [hw1]; simp)
  rw [← hw1]
  clear hw1
  refine (szWarnRuleS_any _ _ _ rs 1048576 _ ((unhide R0).below (unhide B)) (by omega) (by omega)).mono ?_
  rintro x w2 ⟨⟨r1, rfl, hl⟩, b⟩
  have Z2 : Hid (w1.heap.size ≤ w2.heap.size) := hide b.size
  have PB := hide ((unhide PB).below b)
  have B := hide ((unhide B).trans (b.mono (unhide B).size))
  clear b
  rcases hl with hl | ⟨hl, hle, hl1, hT, hall⟩
  · go_wp2_with fail
    go_ret
    exact ⟨rfl, unhide B⟩
  have nr1 : ¬ r1 < 0 := by omega
  have HA := hide (fun i hi => (hall i hi).1 : ∀ i, i < ll1 → (elAt rs i).q.length ≤ 1048576)
  clear hall
  have cPB0 : w2.cell? ⟨w.heap.size, 0, none⟩ = some (.slice a1 l1 c1) := (unhide PB).c 0 (by simp)
  have cPB1 : w2.cell? ⟨w.heap.size, 1, none⟩ = some (.slice a2 l2 c2) := (unhide PB).c 1 (by simp)
  have cPB2 : w2.cell? ⟨w.heap.size, 2, none⟩ = some (.slice a3 l3 c3) := (unhide PB).c 2 (by simp)
  go_wp2_with fail
  clear cPB0 cPB1 cPB2
  refine (szPanel_any _ _ _ _ _ _ _ _ _ z1 z2 z3 r1 _ ((unhide P0).below (unhide B)) (unhide F1) (unhide F2) (unhide F3) (by omega) (by omega)).mono ?_
  rintro x w3 ⟨⟨r2, rfl, hm⟩, b⟩
  have Z3 : Hid (w2.heap.size ≤ w3.heap.size) := hide b.size
  have PB := hide ((unhide PB).below b)
  have B := hide ((unhide B).trans (b.mono (unhide B).size))
  clear b
  rcases hm with hm | ⟨hm, hme, h1, h2, h3⟩
  · go_wp2_with fail
    go_ret
    exact ⟨rfl, unhide B⟩
  have nr2 : ¬ r2 < 0 := by omega
  go_wp2_with fail
  refine (szStringS_any _ _ _ ts r2 _ ((unhide T0).below (unhide B)) (unhide FT) (by omega) (by omega)).mono ?_
  rintro x w' ⟨⟨r3, rfl, hn⟩, hw⟩
  subst w'
  rcases hn with hn | ⟨hn, hne, ht1⟩
  · go_wp2_with fail
    go_ret
    exact ⟨rfl, unhide B⟩
  have nr3 : ¬ r3 < 0 := by omega
  go_wp2_with fail
  have CB : Hid (∀ V, Below w3.heap.size w3 V → Blk V w.heap.size [.slice a1 l1 c1, .slice a2 l2 c2, .slice a3 l3 c3]) := hide (fun V b => (unhide PB).below b)
  refine wp_region_flagsA (by kernel_rfl) (by kernel_rfl) (UpRJ w3 la1 ll1 lc1 rs a1 a2 a3 l1 c1 l2 c2 l3 c3 z1 z2 z3 ph ta1 tl1 tc1 ts (up1 rs z1 z2 z3 ts ph) (up2 rs z1 z2 z3 ts ph) (up3 rs z1 z2 z3 ts ph) (upT rs z1 z2 z3 ts ph) (upB rs z1 z2 z3 ts ph) 41 42 43 44 45 46 47 48 40 49 50 51 10 11 12) ?_ ?_ ?_
  · exact UpRJ.mk (v1 := undef) (v2 := undef) (v3 := undef) (v4 := undef) (v5 := undef) (v6 := undef) (v7 := undef) (v8 := undef) (v9 := undef) (v10 := undef) (v11 := undef) (v12 := undef) (v13 := undef) (v14 := undef) (v15 := undef) (x1 := .int .i64 ph) (x2 := .int .i64 ph) (x3 := .int .i64 ph) (x4 := .int .i64 ph) (A := 0) ⟨(bel0d' 1 : Below w3.heap.size w3 (w3.drewN 1)), (fun h => by cases h), (fun h => by cases h), (fun h => by cases h), (fun h => by cases h), (fun h => by cases h), (fun h => by cases h), (fun h => by cases h), (fun h => by cases h), (fun h => by cases h), (fun h => by cases h), (fun h => by cases h), (fun h => by cases h), (fun h => by cases h), (fun h => by cases h), (fun h => by cases h), (fun h => by cases h), (fun h => by cases h), (fun h => by cases h), (fun h => by cases h), (fun h => by cases h), (fun h => by cases h), (fun h => by cases h), (fun h => by cases h)⟩ (by kernel_rfl)
  rotate_left 1
  · rintro l a V i o ho hl hd ⟨v1, v2, v3, v4, v5, v6, v7, v8, v9, v10, v11, v12, v13, v14, v15, x1, x2, x3, x4, A, rfl, K⟩
    have hi : i < 16 := (Array.getElem?_eq_some_iff.1 ho).1
    rcases (show i = 0 ∨ i = 1 ∨ i = 2 ∨ i = 3 ∨ i = 4 ∨ i = 5 ∨ i = 6 ∨ i = 7 ∨ i = 8 ∨ i = 9 ∨ i = 10 ∨ i = 11 ∨ i = 12 ∨ i = 13 ∨ i = 14 ∨ i = 15 from by omega) with rfl | rfl | rfl | rfl | rfl | rfl | rfl | rfl | rfl | rfl | rfl | rfl | rfl | rfl | rfl | rfl
    · simp at ho
      subst ho
      have HK := hide (K.step0)
      clear K hd hl
      go_wp2_with fail
      exact ⟨rfl, UpRJ.mk (unhide HK) (by kernel_rfl)⟩
    · simp at ho
      subst ho
      have d0 : l 0 = true := hd ⟨0, .data⟩ (by simp) rfl
      have e1 := K.e0 d0
      subst e1
      have HR := hide ((unhide R0).below ((unhide B).trans (K.bel.mono (unhide B).size)))
      have HK0 := hide K
      clear K hd hl d0
      go_wp2_with (go_at_call 8; refine (toWarnRuleS_own _ _ _ rs _ (unhide HR) hl1 (unhide HA)).mono ?_; rintro e V2 ⟨rfl, o2, b2⟩; have HK := hide ((unhide HK0).step1 b2 ⟨_, _, rfl, o2⟩); clear o2 b2)
      exact ⟨rfl, UpRJ.mk (unhide HK) (by kernel_rfl)⟩
    · simp at ho
      subst ho
      have cb := unhide CB V K.bel
      have y0 : V.cell? ⟨w.heap.size, 0, none⟩ = some (.slice a1 l1 c1) := cb.c 0 (by simp)
      have y1 : V.cell? ⟨w.heap.size, 1, none⟩ = some (.slice a2 l2 c2) := cb.c 1 (by simp)
      have y2 : V.cell? ⟨w.heap.size, 2, none⟩ = some (.slice a3 l3 c3) := cb.c 2 (by simp)
      have HK := hide K.step2
      clear K hd hl cb
      go_wp2_with fail
      exact ⟨rfl, UpRJ.mk (unhide HK) (by kernel_rfl)⟩
    · simp at ho
      subst ho
      have d2 : l 2 = true := hd ⟨2, .data⟩ (by simp) rfl
      have e1 := K.e2 d2
      subst e1
      have HR := hide ((unhide P0).below ((unhide B).trans (K.bel.mono (unhide B).size)))
      have HK0 := hide K
      clear K hd hl d2
      go_wp2_with (go_at_call 9; refine (toPanel_own _ _ _ _ _ _ _ _ _ z1 z2 z3 _ (unhide HR) h1 h2 h3).mono ?_; rintro e V2 ⟨⟨g1, g2, g3, rfl, o2⟩, b2⟩; have HK := hide ((unhide HK0).step3 b2 ⟨_, _, _, rfl, o2.read⟩); clear o2 b2)
      exact ⟨rfl, UpRJ.mk (unhide HK) (by kernel_rfl)⟩
    · simp at ho
      subst ho
      have HK := hide (K.step4)
      clear K hd hl
      go_wp2_with fail
      exact ⟨rfl, UpRJ.mk (unhide HK) (by kernel_rfl)⟩
    · simp at ho
      subst ho
      have HK := hide (K.step5)
      clear K hd hl
      go_wp2_with fail
      exact ⟨rfl, UpRJ.mk (unhide HK) (by kernel_rfl)⟩
    · simp at ho
      subst ho
      have d5 : l 5 = true := hd ⟨5, .data⟩ (by simp) rfl
      have e1 := K.e5 d5
      subst e1
      have HR := hide ((unhide T0).below ((unhide B).trans (K.bel.mono (unhide B).size)))
      have HK0 := hide K
      clear K hd hl d5
      go_wp2_with (go_at_call 10; refine (toStringS_own _ _ _ ts _ (unhide HR) ht1).mono ?_; rintro e V2 ⟨rfl, o2, b2⟩; have HK := hide ((unhide HK0).step6 b2 ⟨_, rfl, o2.row⟩); clear o2 b2)
      exact ⟨rfl, UpRJ.mk (unhide HK) (by kernel_rfl)⟩
    · simp at ho
      subst ho
      have d1 : l 1 = true := hd ⟨1, .data⟩ (by simp) rfl
      have d3 : l 3 = true := hd ⟨3, .data⟩ (by simp) rfl
      have d4 : l 4 = true := hd ⟨4, .data⟩ (by simp) rfl
      have d6 : l 6 = true := hd ⟨6, .data⟩ (by simp) rfl
      have e1 := K.e4 d4
      have ns : l 13 = false := by cases c : l 13; rfl; have := (K.cs1 c).1; rw [hl] at this; cases this
      obtain ⟨gr, hr2, e2, o2⟩ := K.e1 d1 ns
      obtain ⟨g1, g2, g3, e3, o3⟩ := K.e3 d3 ns
      obtain ⟨g4, e4, o4⟩ := K.e6 d6 ns
      have HR := hide (o2.row (unhide HFI))
      have HP := hide o3
      have HT := hide o4
      have HL := hide hl
      have HK0 := hide K
      subst e1
      subst e2
      subst e3
      subst e4
      clear K hd hl d1 d3 d4 d6 ns o2 o3 o4
      go_wp2_with (go_at_call 7; refine (specUpdate14_any _ _ _ rs _ _ _ _ _ _ _ _ _ z1 z2 z3 ph _ _ _ ts _ (unhide HR) hl1 (unhide HP) h1 h2 h3 (unhide HT) ht1).mono ?_; rintro e V2 ⟨p1, q1, p2, q2, p3, q3, p4, q4, rfl, o2, o4, f4, b2⟩; have HK := hide ((unhide HK0).step7 (unhide HL) b2 ⟨⟨p1, q1, p2, q2, p3, q3, rfl, rfl, rfl, o2⟩, txv_of o4 f4⟩); clear o2 o4 f4 b2)
      exact ⟨rfl, UpRJ.mk (unhide HK) (by kernel_rfl)⟩
    · simp at ho
      subst ho
      have d7 : l 7 = true := hd ⟨7, .data⟩ (by simp) rfl
      have e1 := (K.e7 d7).1
      subst e1
      have HK := hide (K.step8 d7)
      clear K hd hl d7
      go_wp2_with fail
      exact ⟨rfl, UpRJ.mk (unhide HK) (by kernel_rfl)⟩
    · simp at ho
      subst ho
      have d8 : l 8 = true := hd ⟨8, .data⟩ (by simp) rfl
      have e1 := K.e8 d8
      subst e1
      have HK := hide (K.step9 (K.cl8 d8))
      clear K hd hl d8
      go_wp2_with fail
      exact ⟨rfl, UpRJ.mk (unhide HK) (by kernel_rfl)⟩
    · simp at ho
      subst ho
      have d8 : l 8 = true := hd ⟨8, .data⟩ (by simp) rfl
      have e1 := K.e8 d8
      subst e1
      have HK := hide (K.step10 (K.cl8 d8))
      clear K hd hl d8
      go_wp2_with fail
      exact ⟨rfl, UpRJ.mk (unhide HK) (by kernel_rfl)⟩
    · simp at ho
      subst ho
      have d8 : l 8 = true := hd ⟨8, .data⟩ (by simp) rfl
      have e1 := K.e8 d8
      subst e1
      have HK := hide (K.step11 (K.cl8 d8))
      clear K hd hl d8
      go_wp2_with fail
      exact ⟨rfl, UpRJ.mk (unhide HK) (by kernel_rfl)⟩
    · simp at ho
      subst ho
      have HK := hide (K.step12 29 hl)
      clear K hd hl
      go_wp2_with fail
      exact ⟨rfl, UpRJ.mk (unhide HK) (by kernel_rfl)⟩
    · simp at ho
      subst ho
      have d9 : l 9 = true := hd ⟨9, .data⟩ (by simp) rfl
      have d12 : l 12 = true := hd ⟨12, .data⟩ (by simp) rfl
      have e1 := K.e9 d9
      have dc := K.cl9 d9
      have eA := K.e12 d12
      have kr := eA.2.2
      rw [hl] at kr
      have e2 := eA.1
      obtain ⟨_, _, _, _, _, _, u1, u2, u3, _⟩ := (K.e7 dc).2.1
      have HK := hide (K.step13 hl dc d12)
      have x0 := kr.c 0 (by simp)
      have x1' := kr.c 1 (by simp)
      have x2' := kr.c 2 (by simp)
      have f0 := kr.f 0 (by simp)
      have f1 := kr.f 1 (by simp)
      have f2 := kr.f 2 (by simp)
      subst e1
      subst e2
      subst u1
      subst u2
      subst u3
      clear K hd hl d9 d12 dc eA kr
      go_wp2_with fail
      exact ⟨rfl, UpRJ.mk (unhide HK) (by kernel_rfl)⟩
    · simp at ho
      subst ho
      have d10 : l 10 = true := hd ⟨10, .data⟩ (by simp) rfl
      have e1 := K.e10 d10
      obtain ⟨q4, q5, e2⟩ := (K.e7 (K.cl10 d10)).2.2.1
      have HK := hide (K.step14 (K.cl10 d10))
      subst e2
      subst e1
      clear K hd hl d10
      go_wp2_with fail
      exact ⟨rfl, UpRJ.mk (unhide HK) (by kernel_rfl)⟩
    · simp at ho
      subst ho
      have d11 : l 11 = true := hd ⟨11, .data⟩ (by simp) rfl
      have e1 := K.e11 d11
      subst e1
      have HK := hide (K.step15 (K.cl11 d11))
      clear K hd hl d11
      go_wp2_with fail
      exact ⟨rfl, UpRJ.mk (unhide HK) (by kernel_rfl)⟩
  rintro l a w4 hall ⟨Wv1, Wv2, Wv3, Wv4, Wv5, Wv6, Wv7, Wv8, Wv9, Wv10, Wv11, Wv12, Wv13, Wv14, Wv15, Wx1, Wx2, Wx3, Wx4, WA, rfl, K⟩
  have b := K.bel
  have sW := (K.e12 (hall 12 (by decide))).2.1
  have kW := (K.e12 (hall 12 (by decide))).2.2
  rw [hall 13 (by decide)] at kW
  have WP := hide (K.e7 (hall 7 (by decide))).2.1
  have WP4 := hide (K.e7 (hall 7 (by decide))).2.2
  have WK : Hid (Blk w4 WA [Wx1, Wx2, Wx3]) := hide kW
  have WS : Hid (w3.heap.size ≤ WA) := hide sW
  have e8 := (K.e12 (hall 12 (by decide))).1
  have e9 := K.e15 (hall 15 (by decide))
  have e10 := K.e14 (hall 14 (by decide))
  subst e8
  subst e9
  subst e10
  clear CB K hall sW kW
  have PB := hide ((unhide PB).below b)
  have B := hide ((unhide B).trans (b.mono (unhide B).size))
  clear b
  have WL := hide (unhide WP).lies
  have WL4 := hide (unhide WP4).lies
  have WTT := hide (unhide WK).lt
  obtain ⟨Wp1, Wq1, Wp2, Wq2, Wp3, Wq3, u1, u2, u3, po⟩ := unhide WP
  obtain ⟨⟨Wp4, Wq4, u4⟩, tO, tf⟩ := unhide WP4
  have WO := hide po
  have WT := hide tO
  have WF := hide tf
  subst u1
  subst u2
  subst u3
  subst u4
  clear po tO tf WP WP4
  go_wp2_with fail
  refine (toWarnRuleS_own _ _ _ rs _ ((unhide R0).below (unhide B)) hl1 (unhide HA)).mono ?_
  rintro x w5 ⟨rfl, oc, b⟩
  have OX := hide oc
  clear oc
  have PB := hide ((unhide PB).below b)
  have WK := hide ((unhide WK).below b)
  have WO := hide ((unhide WO).below b)
  have WT := hide ((unhide WT).below b)
  have B := hide ((unhide B).trans (b.mono (unhide B).size))
  clear b
  have HBH : Hid (w4.heap.size < w5.heap.size) := hide (unhide OX).lt
  have cPB0 : w5.cell? ⟨w.heap.size, 0, none⟩ = some (.slice a1 l1 c1) := (unhide PB).c 0 (by simp)
  have cPB1 : w5.cell? ⟨w.heap.size, 1, none⟩ = some (.slice a2 l2 c2) := (unhide PB).c 1 (by simp)
  have cPB2 : w5.cell? ⟨w.heap.size, 2, none⟩ = some (.slice a3 l3 c3) := (unhide PB).c 2 (by simp)
  go_wp2_with fail
  clear cPB0 cPB1 cPB2
  refine (toPanel_own _ _ _ _ _ _ _ _ _ z1 z2 z3 _ ((unhide P0).below (unhide B)) h1 h2 h3).mono ?_
  rintro x w6 ⟨⟨xg1, xg2, xg3, rfl, oc⟩, b⟩
  have XO := hide oc
  have XL := hide oc.lies
  clear oc
  have Z6 : Hid (w5.heap.size ≤ w6.heap.size) := hide b.size
  have PB := hide ((unhide PB).below b)
  have WK := hide ((unhide WK).below b)
  have WO := hide ((unhide WO).below b)
  have WT := hide ((unhide WT).below b)
  have OX := hide ((unhide OX).below b)
  have B := hide ((unhide B).trans (b.mono (unhide B).size))
  clear b
  go_upto_region 14 with fail
  obtain ⟨w7, hw7⟩ : ∃ W, W = w6.alloc (Obj.cells #[.slice (some ⟨xg1, 0, none⟩) l1 l1, .slice (some ⟨xg2, 0, none⟩) l2 l2, .slice (some ⟨xg3, 0, none⟩) l3 l3] 29) := ⟨_, rfl⟩
  have b : Below w6.heap.size w6 w7 := by rw [hw7]; exact bel1 _
  have XK : Hid (Blk w7 w6.heap.size [.slice (some ⟨xg1, 0, none⟩) l1 l1, .slice (some ⟨xg2, 0, none⟩) l2 l2, .slice (some ⟨xg3, 0, none⟩) l3 l3]) := hide (by rw [hw7]; exact Blk.new _ _)
  have ZXK : Hid (w6.heap.size < w7.heap.size) := hide (by rw [hw7]; simp)
  rw [← hw7]
  clear hw7
  have PB := hide ((unhide PB).below b)
  have WK := hide ((unhide WK).below b)
  have WO := hide ((unhide WO).below b)
  have WT := hide ((unhide WT).below b)
  have OX := hide ((unhide OX).below b)
  have XO := hide ((unhide XO).below b)
  have B := hide ((unhide B).trans (b.mono (unhide B).size))
  clear b
  go_wp2_with fail
  refine (toStringS_own _ _ _ ts _ ((unhide T0).below (unhide B)) ht1).mono ?_
  rintro x w8 ⟨rfl, oc, b⟩
  have XT := hide oc
  have XL4 := hide oc.lies
  clear oc
  have Z7 : Hid (w7.heap.size ≤ w8.heap.size) := hide b.size
  have PB := hide ((unhide PB).below b)
  have WK := hide ((unhide WK).below b)
  have WO := hide ((unhide WO).below b)
  have WT := hide ((unhide WT).below b)
  have OX := hide ((unhide OX).below b)
  have XO := hide ((unhide XO).below b)
  have XK := hide ((unhide XK).below b)
  have B := hide ((unhide B).trans (b.mono (unhide B).size))
  clear b
  have cXK0 : w8.cell? ⟨w6.heap.size, 0, none⟩ = some (.slice (some ⟨xg1, 0, none⟩) l1 l1) := (unhide XK).c 0 (by simp)
  have cXK1 : w8.cell? ⟨w6.heap.size, 1, none⟩ = some (.slice (some ⟨xg2, 0, none⟩) l2 l2) := (unhide XK).c 1 (by simp)
  have cXK2 : w8.cell? ⟨w6.heap.size, 2, none⟩ = some (.slice (some ⟨xg3, 0, none⟩) l3 l3) := (unhide XK).c 2 (by simp)
  go_wp2_with fail
  clear cXK0 cXK1 cXK2
  refine (implUpdate14_any _ _ _ rs _ _ _ _ _ _ _ _ _ z1 z2 z3 ph _ _ _ ts _ ((unhide OX).row (unhide HFI)) (unhide XO).read (unhide XT).row (unhide F1) (unhide F2) (unhide F3) (unhide FT)).mono ?_
  rintro x w9 ⟨Gp1, Gq1, Gp2, Gq2, Gp3, Gq3, Gp4, Gq4, rfl, oc, oc4, of4, b⟩
  have GO := hide oc
  have GL := hide oc.lies
  have GT := hide oc4
  have GL4 := hide oc4.lies
  have GF := hide (txv_of (l1 := (up1 rs z1 z2 z3 ts ph).length) (q1 := Gq1) (l2 := (up2 rs z1 z2 z3 ts ph).length) (q2 := Gq2) (l3 := (up3 rs z1 z2 z3 ts ph).length) (q3 := Gq3) oc4 of4).2.2
  clear oc oc4 of4
  have Z8 : Hid (w8.heap.size ≤ w9.heap.size) := hide b.size
  have PB := hide ((unhide PB).below b)
  have WK := hide ((unhide WK).below b)
  have WO := hide ((unhide WO).below b)
  have WT := hide ((unhide WT).below b)
  have OX := hide ((unhide OX).below b)
  have XO := hide ((unhide XO).below b)
  have XK := hide ((unhide XK).below b)
  have XT := hide ((unhide XT).below b)
  have B := hide ((unhide B).trans (b.mono (unhide B).size))
  clear b
  go_upto_region 16 with fail
  obtain ⟨w10, hw10⟩ : ∃ W, W = w9.alloc (Obj.cells #[.slice Gp1 (up1 rs z1 z2 z3 ts ph).length Gq1, .slice Gp2 (up2 rs z1 z2 z3 ts ph).length Gq2, .slice Gp3 (up3 rs z1 z2 z3 ts ph).length Gq3] 29) := ⟨_, rfl⟩
  have b : Below w9.heap.size w9 w10 := by rw [hw10]; exact bel1 _
  have GK : Hid (Blk w10 w9.heap.size [.slice Gp1 (up1 rs z1 z2 z3 ts ph).length Gq1, .slice Gp2 (up2 rs z1 z2 z3 ts ph).length Gq2, .slice Gp3 (up3 rs z1 z2 z3 ts ph).length Gq3]) := hide (by rw [hw10]; exact Blk.new _ _)
  have ZGK : Hid (w9.heap.size < w10.heap.size) := hide (by rw [hw10]; simp)
  rw [← hw10]
  clear hw10
  have PB := hide ((unhide PB).below b)
  have WK := hide ((unhide WK).below b)
  have WO := hide ((unhide WO).below b)
  have WT := hide ((unhide WT).below b)
  have OX := hide ((unhide OX).below b)
  have XO := hide ((unhide XO).below b)
  have XK := hide ((unhide XK).below b)
  have XT := hide ((unhide XT).below b)
  have GO := hide ((unhide GO).below b)
  have GT := hide ((unhide GT).below b)
  have B := hide ((unhide B).trans (b.mono (unhide B).size))
  clear b
  have cGK0 : w10.cell? ⟨w9.heap.size, 0, none⟩ = some (.slice Gp1 (up1 rs z1 z2 z3 ts ph).length Gq1) := (unhide GK).c 0 (by simp)
  have cGK1 : w10.cell? ⟨w9.heap.size, 1, none⟩ = some (.slice Gp2 (up2 rs z1 z2 z3 ts ph).length Gq2) := (unhide GK).c 1 (by simp)
  have cGK2 : w10.cell? ⟨w9.heap.size, 2, none⟩ = some (.slice Gp3 (up3 rs z1 z2 z3 ts ph).length Gq3) := (unhide GK).c 2 (by simp)
  have cWK0 : w10.cell? ⟨WA, 0, none⟩ = some (.slice Wp1 (up1 rs z1 z2 z3 ts ph).length Wq1) := (unhide WK).c 0 (by simp)
  have cWK1 : w10.cell? ⟨WA, 1, none⟩ = some (.slice Wp2 (up2 rs z1 z2 z3 ts ph).length Wq2) := (unhide WK).c 1 (by simp)
  have cWK2 : w10.cell? ⟨WA, 2, none⟩ = some (.slice Wp3 (up3 rs z1 z2 z3 ts ph).length Wq3) := (unhide WK).c 2 (by simp)
  go_wp2_with fail
  clear cGK0 cGK1 cGK2 cWK0 cWK1 cWK2
  refine (eqPanel_same _ _ _ _ _ _ _ _ _ _ _ _ _ _ _ (up1 rs z1 z2 z3 ts ph) (up2 rs z1 z2 z3 ts ph) (up3 rs z1 z2 z3 ts ph) _ (unhide GO).read (unhide WO).read).mono ?_
  rintro x w11 ⟨rfl, b⟩
  have PB := hide ((unhide PB).below b)
  have WK := hide ((unhide WK).below b)
  have WO := hide ((unhide WO).below b)
  have WT := hide ((unhide WT).below b)
  have OX := hide ((unhide OX).below b)
  have XO := hide ((unhide XO).below b)
  have XK := hide ((unhide XK).below b)
  have XT := hide ((unhide XT).below b)
  have GO := hide ((unhide GO).below b)
  have GT := hide ((unhide GT).below b)
  have GK := hide ((unhide GK).below b)
  have B := hide ((unhide B).trans (b.mono (unhide B).size))
  clear b
  go_wp2_with fail
  refine (eqStringS_two _ _ _ _ _ _ (upT rs z1 z2 z3 ts ph) _ (unhide GT).row (unhide WT).row).mono ?_
  rintro x w12 ⟨rfl, b⟩
  have PB := hide ((unhide PB).below b)
  have WK := hide ((unhide WK).below b)
  have WO := hide ((unhide WO).below b)
  have WT := hide ((unhide WT).below b)
  have OX := hide ((unhide OX).below b)
  have XO := hide ((unhide XO).below b)
  have XK := hide ((unhide XK).below b)
  have XT := hide ((unhide XT).below b)
  have GO := hide ((unhide GO).below b)
  have GT := hide ((unhide GT).below b)
  have GK := hide ((unhide GK).below b)
  have B := hide ((unhide B).trans (b.mono (unhide B).size))
  clear b
  go_wp2_with fail
  refine (toWarnRuleS_own _ _ _ rs _ ((unhide R0).below (unhide B)) hl1 (unhide HA)).mono ?_
  rintro x w13 ⟨rfl, oc, b⟩
  have OY := hide oc
  clear oc
  have PB := hide ((unhide PB).below b)
  have WK := hide ((unhide WK).below b)
  have WO := hide ((unhide WO).below b)
  have WT := hide ((unhide WT).below b)
  have OX := hide ((unhide OX).below b)
  have XO := hide ((unhide XO).below b)
  have XK := hide ((unhide XK).below b)
  have XT := hide ((unhide XT).below b)
  have GO := hide ((unhide GO).below b)
  have GT := hide ((unhide GT).below b)
  have GK := hide ((unhide GK).below b)
  have B := hide ((unhide B).trans (b.mono (unhide B).size))
  clear b
  go_wp2_with fail
  refine (eqWarnRuleS_same _ _ _ _ _ _ rs _ ((unhide OX).row (unhide HFI)) ((unhide OY).row (unhide HFI))).mono ?_
  rintro x w14 ⟨rfl, b⟩
  have PB := hide ((unhide PB).below b)
  have WK := hide ((unhide WK).below b)
  have WO := hide ((unhide WO).below b)
  have WT := hide ((unhide WT).below b)
  have OX := hide ((unhide OX).below b)
  have XO := hide ((unhide XO).below b)
  have XK := hide ((unhide XK).below b)
  have XT := hide ((unhide XT).below b)
  have GO := hide ((unhide GO).below b)
  have GT := hide ((unhide GT).below b)
  have GK := hide ((unhide GK).below b)
  have OY := hide ((unhide OY).below b)
  have B := hide ((unhide B).trans (b.mono (unhide B).size))
  clear b
  clear OY
  go_upto_region 20 with fail
  have CB : Hid (∀ V, Below w14.heap.size w14 V → Blk V w.heap.size [.slice a1 l1 c1, .slice a2 l2 c2, .slice a3 l3 c3]) := hide (fun V b => (unhide PB).below b)
  have CX : Hid (∀ V, Below w14.heap.size w14 V → Blk V w6.heap.size [.slice (some ⟨xg1, 0, none⟩) l1 l1, .slice (some ⟨xg2, 0, none⟩) l2 l2, .slice (some ⟨xg3, 0, none⟩) l3 l3] ∧ PnIn V (some ⟨xg1, 0, none⟩) (some ⟨xg2, 0, none⟩) (some ⟨xg3, 0, none⟩) l1 l2 l3 z1 z2 z3) := hide (fun V b => ⟨(unhide XK).below b, ((unhide XO).below b).read⟩)
  refine wp_region_flagsA (by kernel_rfl) (by kernel_rfl) (EqRJ w14 (.agg #[.slice (some ⟨xg1, 0, none⟩) l1 l1, .slice (some ⟨xg2, 0, none⟩) l2 l2, .slice (some ⟨xg3, 0, none⟩) l3 l3]) (.agg #[.slice a1 l1 c1, .slice a2 l2 c2, .slice a3 l3 c3]) l1 l2 l3 z1 z2 z3 87 88 89 90 91) ?_ ?_ ?_
  · exact EqRJ.mk (v1 := undef) (v2 := undef) (v3 := undef) (v4 := undef) (v5 := undef) ⟨(bel0d' 1 : Below w14.heap.size w14 (w14.drewN 1)), (fun h => by cases h), (fun h => by cases h), (fun h => by cases h), (fun h => by cases h), (fun h => by cases h)⟩ (by kernel_rfl)
  rotate_left 1
  · rintro l a V i o ho hl hd ⟨v1, v2, v3, v4, v5, rfl, K⟩
    have hi : i < 5 := (Array.getElem?_eq_some_iff.1 ho).1
    rcases (show i = 0 ∨ i = 1 ∨ i = 2 ∨ i = 3 ∨ i = 4 from by omega) with rfl | rfl | rfl | rfl | rfl
    · simp at ho
      subst ho
      have cx := (unhide CX V K.bel).1
      have y0 : V.cell? ⟨w6.heap.size, 0, none⟩ = some (.slice (some ⟨xg1, 0, none⟩) l1 l1) := cx.c 0 (by simp)
      have y1 : V.cell? ⟨w6.heap.size, 1, none⟩ = some (.slice (some ⟨xg2, 0, none⟩) l2 l2) := cx.c 1 (by simp)
      have y2 : V.cell? ⟨w6.heap.size, 2, none⟩ = some (.slice (some ⟨xg3, 0, none⟩) l3 l3) := cx.c 2 (by simp)
      have HK : Hid (EqR w14 (.agg #[.slice (some ⟨xg1, 0, none⟩) l1 l1, .slice (some ⟨xg2, 0, none⟩) l2 l2, .slice (some ⟨xg3, 0, none⟩) l3 l3]) (.agg #[.slice a1 l1 c1, .slice a2 l2 c2, .slice a3 l3 c3]) l1 l2 l3 z1 z2 z3 true (l 1) (l 2) (l 3) (l 4) (.agg #[.slice (some ⟨xg1, 0, none⟩) l1 l1, .slice (some ⟨xg2, 0, none⟩) l2 l2, .slice (some ⟨xg3, 0, none⟩) l3 l3]) v2 v3 v4 v5 V) := hide ⟨K.bel, fun _ => rfl, K.e1, K.e2, K.e3, K.e4⟩
      clear K hd hl cx
      go_wp2_with fail
      exact ⟨rfl, EqRJ.mk (unhide HK) (by kernel_rfl)⟩
    · simp at ho
      subst ho
      have cb := unhide CB V K.bel
      have y0 : V.cell? ⟨w.heap.size, 0, none⟩ = some (.slice a1 l1 c1) := cb.c 0 (by simp)
      have y1 : V.cell? ⟨w.heap.size, 1, none⟩ = some (.slice a2 l2 c2) := cb.c 1 (by simp)
      have y2 : V.cell? ⟨w.heap.size, 2, none⟩ = some (.slice a3 l3 c3) := cb.c 2 (by simp)
      have HK : Hid (EqR w14 (.agg #[.slice (some ⟨xg1, 0, none⟩) l1 l1, .slice (some ⟨xg2, 0, none⟩) l2 l2, .slice (some ⟨xg3, 0, none⟩) l3 l3]) (.agg #[.slice a1 l1 c1, .slice a2 l2 c2, .slice a3 l3 c3]) l1 l2 l3 z1 z2 z3 (l 0) true (l 2) (l 3) (l 4) v1 (.agg #[.slice a1 l1 c1, .slice a2 l2 c2, .slice a3 l3 c3]) v3 v4 v5 V) := hide ⟨K.bel, K.e0, fun _ => rfl, K.e2, K.e3, K.e4⟩
      clear K hd hl cb
      go_wp2_with fail
      exact ⟨rfl, EqRJ.mk (unhide HK) (by kernel_rfl)⟩
    · simp at ho
      subst ho
      have d1 : l 1 = true := hd ⟨1, .data⟩ (by simp) rfl
      have e1 := K.e1 d1
      subst e1
      have HR := hide ((unhide P0).below ((unhide B).trans (K.bel.mono (unhide B).size)))
      have HK0 := hide K
      clear K hd hl d1
      go_wp2_with (go_at_call 9; refine (toPanel_own _ _ _ _ _ _ _ _ _ z1 z2 z3 _ (unhide HR) h1 h2 h3).mono ?_; rintro e V2 ⟨⟨g1, g2, g3, rfl, o2⟩, b2⟩; have K2 := (unhide HK0).below b2; have HK : Hid (EqR w14 (.agg #[.slice (some ⟨xg1, 0, none⟩) l1 l1, .slice (some ⟨xg2, 0, none⟩) l2 l2, .slice (some ⟨xg3, 0, none⟩) l3 l3]) (.agg #[.slice a1 l1 c1, .slice a2 l2 c2, .slice a3 l3 c3]) l1 l2 l3 z1 z2 z3 (l 0) (l 1) true (l 3) (l 4) v1 (.agg #[.slice a1 l1 c1, .slice a2 l2 c2, .slice a3 l3 c3]) (.agg #[.slice (some ⟨g1, 0, none⟩) l1 l1, .slice (some ⟨g2, 0, none⟩) l2 l2, .slice (some ⟨g3, 0, none⟩) l3 l3]) v4 v5 V2) := hide ⟨K2.bel, K2.e0, K2.e1, fun _ => ⟨g1, g2, g3, rfl, o2.read⟩, K2.e3, K2.e4⟩; clear o2 b2 K2)
      exact ⟨rfl, EqRJ.mk (unhide HK) (by kernel_rfl)⟩
    · simp at ho
      subst ho
      have d0 : l 0 = true := hd ⟨0, .data⟩ (by simp) rfl
      have d2 : l 2 = true := hd ⟨2, .data⟩ (by simp) rfl
      have e1 := K.e0 d0
      obtain ⟨g1, g2, g3, e2, o2⟩ := K.e2 d2
      have HX := hide (unhide CX V K.bel).2
      have HY := hide o2
      have HK0 := hide K
      subst e1
      subst e2
      clear K hd hl d0 d2 o2
      go_wp2_with (go_at_call 12; refine (eqPanel_same _ _ _ _ _ _ _ _ _ _ _ _ _ _ _ z1 z2 z3 _ (unhide HX) (unhide HY)).mono ?_; rintro e V2 ⟨rfl, b2⟩; have K2 := (unhide HK0).below b2; have HK : Hid (EqR w14 (.agg #[.slice (some ⟨xg1, 0, none⟩) l1 l1, .slice (some ⟨xg2, 0, none⟩) l2 l2, .slice (some ⟨xg3, 0, none⟩) l3 l3]) (.agg #[.slice a1 l1 c1, .slice a2 l2 c2, .slice a3 l3 c3]) l1 l2 l3 z1 z2 z3 (l 0) (l 1) (l 2) true (l 4) (.agg #[.slice (some ⟨xg1, 0, none⟩) l1 l1, .slice (some ⟨xg2, 0, none⟩) l2 l2, .slice (some ⟨xg3, 0, none⟩) l3 l3]) v2 (.agg #[.slice (some ⟨g1, 0, none⟩) l1 l1, .slice (some ⟨g2, 0, none⟩) l2 l2, .slice (some ⟨g3, 0, none⟩) l3 l3]) (.bool true) v5 V2) := hide ⟨K2.bel, K2.e0, K2.e1, K2.e2, fun _ => rfl, K2.e4⟩; clear b2 K2)
      exact ⟨rfl, EqRJ.mk (unhide HK) (by kernel_rfl)⟩
    · simp at ho
      subst ho
      have d3 : l 3 = true := hd ⟨3, .data⟩ (by simp) rfl
      have e1 := K.e3 d3
      subst e1
      have HK : Hid (EqR w14 (.agg #[.slice (some ⟨xg1, 0, none⟩) l1 l1, .slice (some ⟨xg2, 0, none⟩) l2 l2, .slice (some ⟨xg3, 0, none⟩) l3 l3]) (.agg #[.slice a1 l1 c1, .slice a2 l2 c2, .slice a3 l3 c3]) l1 l2 l3 z1 z2 z3 (l 0) (l 1) (l 2) (l 3) true v1 v2 v3 (.bool true) (.bool false) V) := hide ⟨K.bel, K.e0, K.e1, K.e2, K.e3, fun _ => rfl⟩
      clear K hd hl d3
      go_wp2_with fail
      exact ⟨rfl, EqRJ.mk (unhide HK) (by kernel_rfl)⟩
  rintro l a w15 hall ⟨Ev1, Ev2, Ev3, Ev4, Ev5, rfl, K⟩
  have b := K.bel
  have e5 := K.e4 (hall 4 (by decide))
  subst e5
  clear K hall CB CX
  have PB := hide ((unhide PB).below b)
  have WK := hide ((unhide WK).below b)
  have WO := hide ((unhide WO).below b)
  have WT := hide ((unhide WT).below b)
  have OX := hide ((unhide OX).below b)
  have XO := hide ((unhide XO).below b)
  have XK := hide ((unhide XK).below b)
  have XT := hide ((unhide XT).below b)
  have GO := hide ((unhide GO).below b)
  have GT := hide ((unhide GT).below b)
  have GK := hide ((unhide GK).below b)
  have B := hide ((unhide B).trans (b.mono (unhide B).size))
  clear b
  go_wp2_with fail
  refine (toStringS_own _ _ _ ts _ ((unhide T0).below (unhide B)) ht1).mono ?_
  rintro x w16 ⟨rfl, oc, b⟩
  have OY := hide oc
  clear oc
  have PB := hide ((unhide PB).below b)
  have WK := hide ((unhide WK).below b)
  have WO := hide ((unhide WO).below b)
  have WT := hide ((unhide WT).below b)
  have OX := hide ((unhide OX).below b)
  have XO := hide ((unhide XO).below b)
  have XK := hide ((unhide XK).below b)
  have XT := hide ((unhide XT).below b)
  have GO := hide ((unhide GO).below b)
  have GT := hide ((unhide GT).below b)
  have GK := hide ((unhide GK).below b)
  have B := hide ((unhide B).trans (b.mono (unhide B).size))
  clear b
  go_wp2_with fail
  refine (eqStringS_two _ _ _ _ _ _ ts _ (unhide XT).row (unhide OY).row).mono ?_
  rintro x w17 ⟨rfl, b⟩
  have PB := hide ((unhide PB).below b)
  have WK := hide ((unhide WK).below b)
  have WO := hide ((unhide WO).below b)
  have WT := hide ((unhide WT).below b)
  have OX := hide ((unhide OX).below b)
  have XO := hide ((unhide XO).below b)
  have XK := hide ((unhide XK).below b)
  have XT := hide ((unhide XT).below b)
  have GO := hide ((unhide GO).below b)
  have GT := hide ((unhide GT).below b)
  have GK := hide ((unhide GK).below b)
  have OY := hide ((unhide OY).below b)
  have B := hide ((unhide B).trans (b.mono (unhide B).size))
  clear b
  clear OY
  go_wp2_with fail
  refine (markWarnRuleS_own _ _ _ rs 1 _ (unhide OX) (unhide HBH) (by omega) (by omega) (unhide HA) hT).mono ?_
  rintro x w18 ⟨rfl, on⟩
  have PB := hide ((unhide PB).only on (by have z1 := unhide Z1; have z2 := unhide Z2; have z3 := unhide Z3; have zh := unhide HBH; have z6 := unhide Z6; have z7 := unhide Z7; have zx := unhide ZXK; have zg := unhide ZGK; have zw := unhide WS; have zt := unhide WTT; have zs := unhide Z8; omega))
  have WK := hide ((unhide WK).only on (by have z1 := unhide Z1; have z2 := unhide Z2; have z3 := unhide Z3; have zh := unhide HBH; have z6 := unhide Z6; have z7 := unhide Z7; have zx := unhide ZXK; have zg := unhide ZGK; have zw := unhide WS; have zt := unhide WTT; have zs := unhide Z8; omega))
  have WO := hide ((unhide WO).only on (unhide WL) (by have z1 := unhide Z1; have z2 := unhide Z2; have z3 := unhide Z3; have zh := unhide HBH; have z6 := unhide Z6; have z7 := unhide Z7; have zx := unhide ZXK; have zg := unhide ZGK; have zw := unhide WS; have zt := unhide WTT; have zs := unhide Z8; omega))
  have WT := hide ((unhide WT).only on (fun g hg => by have q := unhide WL4 g hg; have z1 := unhide Z1; have z2 := unhide Z2; have z3 := unhide Z3; have zh := unhide HBH; have z6 := unhide Z6; have z7 := unhide Z7; have zx := unhide ZXK; have zg := unhide ZGK; have zw := unhide WS; have zt := unhide WTT; have zs := unhide Z8; omega))
  have XK := hide ((unhide XK).only on (by have z1 := unhide Z1; have z2 := unhide Z2; have z3 := unhide Z3; have zh := unhide HBH; have z6 := unhide Z6; have z7 := unhide Z7; have zx := unhide ZXK; have zg := unhide ZGK; have zw := unhide WS; have zt := unhide WTT; have zs := unhide Z8; omega))
  have XO := hide ((unhide XO).only on (unhide XL) (by have z1 := unhide Z1; have z2 := unhide Z2; have z3 := unhide Z3; have zh := unhide HBH; have z6 := unhide Z6; have z7 := unhide Z7; have zx := unhide ZXK; have zg := unhide ZGK; have zw := unhide WS; have zt := unhide WTT; have zs := unhide Z8; omega))
  have XT := hide ((unhide XT).only on (fun g hg => by have q := unhide XL4 g hg; have z1 := unhide Z1; have z2 := unhide Z2; have z3 := unhide Z3; have zh := unhide HBH; have z6 := unhide Z6; have z7 := unhide Z7; have zx := unhide ZXK; have zg := unhide ZGK; have zw := unhide WS; have zt := unhide WTT; have zs := unhide Z8; omega))
  have GK := hide ((unhide GK).only on (by have z1 := unhide Z1; have z2 := unhide Z2; have z3 := unhide Z3; have zh := unhide HBH; have z6 := unhide Z6; have z7 := unhide Z7; have zx := unhide ZXK; have zg := unhide ZGK; have zw := unhide WS; have zt := unhide WTT; have zs := unhide Z8; omega))
  have GO := hide ((unhide GO).only on (unhide GL) (by have z1 := unhide Z1; have z2 := unhide Z2; have z3 := unhide Z3; have zh := unhide HBH; have z6 := unhide Z6; have z7 := unhide Z7; have zx := unhide ZXK; have zg := unhide ZGK; have zw := unhide WS; have zt := unhide WTT; have zs := unhide Z8; omega))
  have GT := hide ((unhide GT).only on (fun g hg => by have q := unhide GL4 g hg; have z1 := unhide Z1; have z2 := unhide Z2; have z3 := unhide Z3; have zh := unhide HBH; have z6 := unhide Z6; have z7 := unhide Z7; have zx := unhide ZXK; have zg := unhide ZGK; have zw := unhide WS; have zt := unhide WTT; have zs := unhide Z8; omega))
  have B := hide (below_only (unhide B) on (by have z1 := unhide Z1; have z2 := unhide Z2; have z3 := unhide Z3; have zh := unhide HBH; have z6 := unhide Z6; have z7 := unhide Z7; have zx := unhide ZXK; have zg := unhide ZGK; have zw := unhide WS; have zt := unhide WTT; have zs := unhide Z8; omega) (Nat.le_refl _))
  clear on
  clear OX
  have cXK0 : w18.cell? ⟨w6.heap.size, 0, none⟩ = some (.slice (some ⟨xg1, 0, none⟩) l1 l1) := (unhide XK).c 0 (by simp)
  have cXK1 : w18.cell? ⟨w6.heap.size, 1, none⟩ = some (.slice (some ⟨xg2, 0, none⟩) l2 l2) := (unhide XK).c 1 (by simp)
  have cXK2 : w18.cell? ⟨w6.heap.size, 2, none⟩ = some (.slice (some ⟨xg3, 0, none⟩) l3 l3) := (unhide XK).c 2 (by simp)
  go_wp2_with fail
  clear cXK0 cXK1 cXK2
  refine (markPanel_own _ _ _ _ _ _ _ _ _ _ z1 z2 z3 (1 + 4 * (ll1 : Int) + (wrTot rs ll1 : Int)) _ (unhide XO) (unhide E1) h1 (unhide E2) h2 (unhide E3) h3 (by omega) (by omega) _ _ (unhide XL) (by have := (unhide XK).lt; omega)).mono ?_
  rintro x w19 ⟨rfl, _, on⟩
  have PB := hide ((unhide PB).only on (by have z1 := unhide Z1; have z2 := unhide Z2; have z3 := unhide Z3; have zh := unhide HBH; have z6 := unhide Z6; have z7 := unhide Z7; have zx := unhide ZXK; have zg := unhide ZGK; have zw := unhide WS; have zt := unhide WTT; have zs := unhide Z8; omega))
  have WK := hide ((unhide WK).only on (by have z1 := unhide Z1; have z2 := unhide Z2; have z3 := unhide Z3; have zh := unhide HBH; have z6 := unhide Z6; have z7 := unhide Z7; have zx := unhide ZXK; have zg := unhide ZGK; have zw := unhide WS; have zt := unhide WTT; have zs := unhide Z8; omega))
  have WO := hide ((unhide WO).only on (unhide WL) (by have z1 := unhide Z1; have z2 := unhide Z2; have z3 := unhide Z3; have zh := unhide HBH; have z6 := unhide Z6; have z7 := unhide Z7; have zx := unhide ZXK; have zg := unhide ZGK; have zw := unhide WS; have zt := unhide WTT; have zs := unhide Z8; omega))
  have WT := hide ((unhide WT).only on (fun g hg => by have q := unhide WL4 g hg; have z1 := unhide Z1; have z2 := unhide Z2; have z3 := unhide Z3; have zh := unhide HBH; have z6 := unhide Z6; have z7 := unhide Z7; have zx := unhide ZXK; have zg := unhide ZGK; have zw := unhide WS; have zt := unhide WTT; have zs := unhide Z8; omega))
  have XT := hide ((unhide XT).only on (fun g hg => by have q := unhide XL4 g hg; have z1 := unhide Z1; have z2 := unhide Z2; have z3 := unhide Z3; have zh := unhide HBH; have z6 := unhide Z6; have z7 := unhide Z7; have zx := unhide ZXK; have zg := unhide ZGK; have zw := unhide WS; have zt := unhide WTT; have zs := unhide Z8; omega))
  have GK := hide ((unhide GK).only on (by have z1 := unhide Z1; have z2 := unhide Z2; have z3 := unhide Z3; have zh := unhide HBH; have z6 := unhide Z6; have z7 := unhide Z7; have zx := unhide ZXK; have zg := unhide ZGK; have zw := unhide WS; have zt := unhide WTT; have zs := unhide Z8; omega))
  have GO := hide ((unhide GO).only on (unhide GL) (by have z1 := unhide Z1; have z2 := unhide Z2; have z3 := unhide Z3; have zh := unhide HBH; have z6 := unhide Z6; have z7 := unhide Z7; have zx := unhide ZXK; have zg := unhide ZGK; have zw := unhide WS; have zt := unhide WTT; have zs := unhide Z8; omega))
  have GT := hide ((unhide GT).only on (fun g hg => by have q := unhide GL4 g hg; have z1 := unhide Z1; have z2 := unhide Z2; have z3 := unhide Z3; have zh := unhide HBH; have z6 := unhide Z6; have z7 := unhide Z7; have zx := unhide ZXK; have zg := unhide ZGK; have zw := unhide WS; have zt := unhide WTT; have zs := unhide Z8; omega))
  have B := hide (below_only (unhide B) on (by have z1 := unhide Z1; have z2 := unhide Z2; have z3 := unhide Z3; have zh := unhide HBH; have z6 := unhide Z6; have z7 := unhide Z7; have zx := unhide ZXK; have zg := unhide ZGK; have zw := unhide WS; have zt := unhide WTT; have zs := unhide Z8; omega) (Nat.le_refl _))
  clear on
  clear XO XK
  go_wp2_with fail
  refine (markStringS_any _ _ _ _ ts ((1 + 4 * (ll1 : Int) + (wrTot rs ll1 : Int)) + (l1 : Int) + (l2 : Int) + (l3 : Int)) _ (unhide XT) (unhide E4) ht1 (by omega) (by omega)).mono ?_
  rintro x w20 ⟨rfl, _, gr⟩
  have on := Only.of_row (lo := w7.heap.size) (hi := w8.heap.size) gr (fun g hg => unhide XL4 g hg)
  clear gr
  have PB := hide ((unhide PB).only on (by have z1 := unhide Z1; have z2 := unhide Z2; have z3 := unhide Z3; have zh := unhide HBH; have z6 := unhide Z6; have z7 := unhide Z7; have zx := unhide ZXK; have zg := unhide ZGK; have zw := unhide WS; have zt := unhide WTT; have zs := unhide Z8; omega))
  have WK := hide ((unhide WK).only on (by have z1 := unhide Z1; have z2 := unhide Z2; have z3 := unhide Z3; have zh := unhide HBH; have z6 := unhide Z6; have z7 := unhide Z7; have zx := unhide ZXK; have zg := unhide ZGK; have zw := unhide WS; have zt := unhide WTT; have zs := unhide Z8; omega))
  have WO := hide ((unhide WO).only on (unhide WL) (by have z1 := unhide Z1; have z2 := unhide Z2; have z3 := unhide Z3; have zh := unhide HBH; have z6 := unhide Z6; have z7 := unhide Z7; have zx := unhide ZXK; have zg := unhide ZGK; have zw := unhide WS; have zt := unhide WTT; have zs := unhide Z8; omega))
  have WT := hide ((unhide WT).only on (fun g hg => by have q := unhide WL4 g hg; have z1 := unhide Z1; have z2 := unhide Z2; have z3 := unhide Z3; have zh := unhide HBH; have z6 := unhide Z6; have z7 := unhide Z7; have zx := unhide ZXK; have zg := unhide ZGK; have zw := unhide WS; have zt := unhide WTT; have zs := unhide Z8; omega))
  have GK := hide ((unhide GK).only on (by have z1 := unhide Z1; have z2 := unhide Z2; have z3 := unhide Z3; have zh := unhide HBH; have z6 := unhide Z6; have z7 := unhide Z7; have zx := unhide ZXK; have zg := unhide ZGK; have zw := unhide WS; have zt := unhide WTT; have zs := unhide Z8; omega))
  have GO := hide ((unhide GO).only on (unhide GL) (by have z1 := unhide Z1; have z2 := unhide Z2; have z3 := unhide Z3; have zh := unhide HBH; have z6 := unhide Z6; have z7 := unhide Z7; have zx := unhide ZXK; have zg := unhide ZGK; have zw := unhide WS; have zt := unhide WTT; have zs := unhide Z8; omega))
  have GT := hide ((unhide GT).only on (fun g hg => by have q := unhide GL4 g hg; have z1 := unhide Z1; have z2 := unhide Z2; have z3 := unhide Z3; have zh := unhide HBH; have z6 := unhide Z6; have z7 := unhide Z7; have zx := unhide ZXK; have zg := unhide ZGK; have zw := unhide WS; have zt := unhide WTT; have zs := unhide Z8; omega))
  have B := hide (below_only (unhide B) on (by have z1 := unhide Z1; have z2 := unhide Z2; have z3 := unhide Z3; have zh := unhide HBH; have z6 := unhide Z6; have z7 := unhide Z7; have zx := unhide ZXK; have zg := unhide ZGK; have zw := unhide WS; have zt := unhide WTT; have zs := unhide Z8; omega) (Nat.le_refl _))
  clear on
  clear XT
  have kk : ¬ (((1 + 4 * (ll1 : Int) + (wrTot rs ll1 : Int)) + (l1 : Int) + (l2 : Int) + (l3 : Int)) + (tl1 : Int)) < 0 := by omega
  have cGK0 : w20.cell? ⟨w9.heap.size, 0, none⟩ = some (.slice Gp1 (up1 rs z1 z2 z3 ts ph).length Gq1) := (unhide GK).c 0 (by simp)
  have cGK1 : w20.cell? ⟨w9.heap.size, 1, none⟩ = some (.slice Gp2 (up2 rs z1 z2 z3 ts ph).length Gq2) := (unhide GK).c 1 (by simp)
  have cGK2 : w20.cell? ⟨w9.heap.size, 2, none⟩ = some (.slice Gp3 (up3 rs z1 z2 z3 ts ph).length Gq3) := (unhide GK).c 2 (by simp)
  have cWK0 : w20.cell? ⟨WA, 0, none⟩ = some (.slice Wp1 (up1 rs z1 z2 z3 ts ph).length Wq1) := (unhide WK).c 0 (by simp)
  have cWK1 : w20.cell? ⟨WA, 1, none⟩ = some (.slice Wp2 (up2 rs z1 z2 z3 ts ph).length Wq2) := (unhide WK).c 1 (by simp)
  have cWK2 : w20.cell? ⟨WA, 2, none⟩ = some (.slice Wp3 (up3 rs z1 z2 z3 ts ph).length Wq3) := (unhide WK).c 2 (by simp)
  go_wp2_with fail
  clear cGK0 cGK1 cGK2 cWK0 cWK1 cWK2
  refine (eqPanel_same _ _ _ _ _ _ _ _ _ _ _ _ _ _ _ (up1 rs z1 z2 z3 ts ph) (up2 rs z1 z2 z3 ts ph) (up3 rs z1 z2 z3 ts ph) _ (unhide GO).read (unhide WO).read).mono ?_
  rintro x w21 ⟨rfl, b⟩
  have PB := hide ((unhide PB).below b)
  have WK := hide ((unhide WK).below b)
  have WO := hide ((unhide WO).below b)
  have WT := hide ((unhide WT).below b)
  have GO := hide ((unhide GO).below b)
  have GT := hide ((unhide GT).below b)
  have GK := hide ((unhide GK).below b)
  have B := hide ((unhide B).trans (b.mono (unhide B).size))
  clear b
  go_wp2_with fail
  refine (eqStringS_two _ _ _ _ _ _ (upT rs z1 z2 z3 ts ph) _ (unhide GT).row (unhide WT).row).mono ?_
  rintro x w22 ⟨rfl, b⟩
  have PB := hide ((unhide PB).below b)
  have WK := hide ((unhide WK).below b)
  have WO := hide ((unhide WO).below b)
  have WT := hide ((unhide WT).below b)
  have GO := hide ((unhide GO).below b)
  have GT := hide ((unhide GT).below b)
  have GK := hide ((unhide GK).below b)
  have B := hide ((unhide B).trans (b.mono (unhide B).size))
  clear b
  obtain ⟨s1, s2, s3, s4⟩ := up_small rs z1 z2 z3 ts ph
  have s1 : (up1 rs z1 z2 z3 ts ph).length ≤ 1048576 := by have := unhide E4; omega
  have s2 : (up2 rs z1 z2 z3 ts ph).length ≤ 1048576 := by omega
  have s3 : (up3 rs z1 z2 z3 ts ph).length ≤ 1048576 := by have := unhide E3; omega
  have s4 : (upT rs z1 z2 z3 ts ph).length ≤ 1048576 := by omega
  have cGK0 : w22.cell? ⟨w9.heap.size, 0, none⟩ = some (.slice Gp1 (up1 rs z1 z2 z3 ts ph).length Gq1) := (unhide GK).c 0 (by simp)
  have cGK1 : w22.cell? ⟨w9.heap.size, 1, none⟩ = some (.slice Gp2 (up2 rs z1 z2 z3 ts ph).length Gq2) := (unhide GK).c 1 (by simp)
  have cGK2 : w22.cell? ⟨w9.heap.size, 2, none⟩ = some (.slice Gp3 (up3 rs z1 z2 z3 ts ph).length Gq3) := (unhide GK).c 2 (by simp)
  go_wp2_with fail
  clear cGK0 cGK1 cGK2
  refine (markPanel_keep _ _ _ _ _ _ _ _ _ _ (up1 rs z1 z2 z3 ts ph) (up2 rs z1 z2 z3 ts ph) (up3 rs z1 z2 z3 ts ph) 1 _ (unhide GO) rfl s1 rfl s2 rfl s3 (by omega) (by omega) _ _ (unhide GL) (by have := (unhide GK).lt; omega) _ _ (upT rs z1 z2 z3 ts ph) (unhide GT) (unhide GF)).mono ?_
  rintro x w23 ⟨rfl, om, o4, on⟩
  have PB := hide ((unhide PB).only on (by have z1 := unhide Z1; have z2 := unhide Z2; have z3 := unhide Z3; have zh := unhide HBH; have z6 := unhide Z6; have z7 := unhide Z7; have zx := unhide ZXK; have zg := unhide ZGK; have zw := unhide WS; have zt := unhide WTT; have zs := unhide Z8; omega))
  have WK := hide ((unhide WK).only on (by have z1 := unhide Z1; have z2 := unhide Z2; have z3 := unhide Z3; have zh := unhide HBH; have z6 := unhide Z6; have z7 := unhide Z7; have zx := unhide ZXK; have zg := unhide ZGK; have zw := unhide WS; have zt := unhide WTT; have zs := unhide Z8; omega))
  have WO := hide ((unhide WO).only on (unhide WL) (by have z1 := unhide Z1; have z2 := unhide Z2; have z3 := unhide Z3; have zh := unhide HBH; have z6 := unhide Z6; have z7 := unhide Z7; have zx := unhide ZXK; have zg := unhide ZGK; have zw := unhide WS; have zt := unhide WTT; have zs := unhide Z8; omega))
  have WT := hide ((unhide WT).only on (fun g hg => by have q := unhide WL4 g hg; have z1 := unhide Z1; have z2 := unhide Z2; have z3 := unhide Z3; have zh := unhide HBH; have z6 := unhide Z6; have z7 := unhide Z7; have zx := unhide ZXK; have zg := unhide ZGK; have zw := unhide WS; have zt := unhide WTT; have zs := unhide Z8; omega))
  have GK := hide ((unhide GK).only on (by have z1 := unhide Z1; have z2 := unhide Z2; have z3 := unhide Z3; have zh := unhide HBH; have z6 := unhide Z6; have z7 := unhide Z7; have zx := unhide ZXK; have zg := unhide ZGK; have zw := unhide WS; have zt := unhide WTT; have zs := unhide Z8; omega))
  have B := hide (below_only (unhide B) on (by have z1 := unhide Z1; have z2 := unhide Z2; have z3 := unhide Z3; have zh := unhide HBH; have z6 := unhide Z6; have z7 := unhide Z7; have zx := unhide ZXK; have zg := unhide ZGK; have zw := unhide WS; have zt := unhide WTT; have zs := unhide Z8; omega) (Nat.le_refl _))
  clear on
  have GO := hide om
  have GT := hide o4
  clear om o4
  go_wp2_with fail
  refine (markStringS_any _ _ _ _ (upT rs z1 z2 z3 ts ph) (1 + ((up1 rs z1 z2 z3 ts ph).length : Int) + ((up2 rs z1 z2 z3 ts ph).length : Int) + ((up3 rs z1 z2 z3 ts ph).length : Int)) _ (unhide GT) rfl s4 (by omega) (by omega)).mono ?_
  rintro x w24 ⟨rfl, om, gr⟩
  have on := Only.of_row (lo := w8.heap.size) (hi := w9.heap.size) gr (fun g hg => unhide GL4 g hg)
  have GO := hide ((unhide GO).far4 gr (unhide GF))
  clear gr
  have PB := hide ((unhide PB).only on (by have z1 := unhide Z1; have z2 := unhide Z2; have z3 := unhide Z3; have zh := unhide HBH; have z6 := unhide Z6; have z7 := unhide Z7; have zx := unhide ZXK; have zg := unhide ZGK; have zw := unhide WS; have zt := unhide WTT; have zs := unhide Z8; omega))
  have WK := hide ((unhide WK).only on (by have z1 := unhide Z1; have z2 := unhide Z2; have z3 := unhide Z3; have zh := unhide HBH; have z6 := unhide Z6; have z7 := unhide Z7; have zx := unhide ZXK; have zg := unhide ZGK; have zw := unhide WS; have zt := unhide WTT; have zs := unhide Z8; omega))
  have WO := hide ((unhide WO).only on (unhide WL) (by have z1 := unhide Z1; have z2 := unhide Z2; have z3 := unhide Z3; have zh := unhide HBH; have z6 := unhide Z6; have z7 := unhide Z7; have zx := unhide ZXK; have zg := unhide ZGK; have zw := unhide WS; have zt := unhide WTT; have zs := unhide Z8; omega))
  have WT := hide ((unhide WT).only on (fun g hg => by have q := unhide WL4 g hg; have z1 := unhide Z1; have z2 := unhide Z2; have z3 := unhide Z3; have zh := unhide HBH; have z6 := unhide Z6; have z7 := unhide Z7; have zx := unhide ZXK; have zg := unhide ZGK; have zw := unhide WS; have zt := unhide WTT; have zs := unhide Z8; omega))
  have GK := hide ((unhide GK).only on (by have z1 := unhide Z1; have z2 := unhide Z2; have z3 := unhide Z3; have zh := unhide HBH; have z6 := unhide Z6; have z7 := unhide Z7; have zx := unhide ZXK; have zg := unhide ZGK; have zw := unhide WS; have zt := unhide WTT; have zs := unhide Z8; omega))
  have B := hide (below_only (unhide B) on (by have z1 := unhide Z1; have z2 := unhide Z2; have z3 := unhide Z3; have zh := unhide HBH; have z6 := unhide Z6; have z7 := unhide Z7; have zx := unhide ZXK; have zg := unhide ZGK; have zw := unhide WS; have zt := unhide WTT; have zs := unhide Z8; omega) (Nat.le_refl _))
  clear on
  have GT := hide om
  clear om
  have cGK0 : w24.cell? ⟨w9.heap.size, 0, none⟩ = some (.slice Gp1 (up1 rs z1 z2 z3 ts ph).length Gq1) := (unhide GK).c 0 (by simp)
  have cGK1 : w24.cell? ⟨w9.heap.size, 1, none⟩ = some (.slice Gp2 (up2 rs z1 z2 z3 ts ph).length Gq2) := (unhide GK).c 1 (by simp)
  have cGK2 : w24.cell? ⟨w9.heap.size, 2, none⟩ = some (.slice Gp3 (up3 rs z1 z2 z3 ts ph).length Gq3) := (unhide GK).c 2 (by simp)
  go_wp2_with fail
  clear cGK0 cGK1 cGK2
  refine (heldPanel_any _ _ _ _ _ _ _ _ _ _ (up1 rs z1 z2 z3 ts ph) (up2 rs z1 z2 z3 ts ph) (up3 rs z1 z2 z3 ts ph) 1 _ (unhide GO) rfl s1 rfl s2 rfl s3 (by omega) (by omega)).mono ?_
  rintro x w25 ⟨rfl, b⟩
  have PB := hide ((unhide PB).below b)
  have WK := hide ((unhide WK).below b)
  have WO := hide ((unhide WO).below b)
  have WT := hide ((unhide WT).below b)
  have GK := hide ((unhide GK).below b)
  have GO := hide ((unhide GO).below b)
  have GT := hide ((unhide GT).below b)
  have B := hide ((unhide B).trans (b.mono (unhide B).size))
  clear b
  have n1 : ¬ (1 + ((up1 rs z1 z2 z3 ts ph).length : Int) + ((up2 rs z1 z2 z3 ts ph).length : Int) + ((up3 rs z1 z2 z3 ts ph).length : Int)) < 0 := by omega
  go_wp2_with fail
  clear n1
  refine (heldStringS_bel _ _ _ (upT rs z1 z2 z3 ts ph) (1 + ((up1 rs z1 z2 z3 ts ph).length : Int) + ((up2 rs z1 z2 z3 ts ph).length : Int) + ((up3 rs z1 z2 z3 ts ph).length : Int)) _ (unhide GT).row rfl s4 (by omega) (by omega)).mono ?_
  rintro x w26 ⟨rfl, b⟩
  have PB := hide ((unhide PB).below b)
  have WK := hide ((unhide WK).below b)
  have WO := hide ((unhide WO).below b)
  have WT := hide ((unhide WT).below b)
  have GK := hide ((unhide GK).below b)
  have GO := hide ((unhide GO).below b)
  have GT := hide ((unhide GT).below b)
  have B := hide ((unhide B).trans (b.mono (unhide B).size))
  clear b
  have n1 : ¬ ((1 + ((up1 rs z1 z2 z3 ts ph).length : Int) + ((up2 rs z1 z2 z3 ts ph).length : Int) + ((up3 rs z1 z2 z3 ts ph).length : Int)) + ((upT rs z1 z2 z3 ts ph).length : Int)) < 0 := by omega
  have n2 : (((1 + ((up1 rs z1 z2 z3 ts ph).length : Int) + ((up2 rs z1 z2 z3 ts ph).length : Int) + ((up3 rs z1 z2 z3 ts ph).length : Int)) + ((upT rs z1 z2 z3 ts ph).length : Int)) != ((1 + ((up1 rs z1 z2 z3 ts ph).length : Int) + ((up2 rs z1 z2 z3 ts ph).length : Int) + ((up3 rs z1 z2 z3 ts ph).length : Int)) + ((upT rs z1 z2 z3 ts ph).length : Int))) = false := by simp
  go_wp2_with fail
  clear n1 n2
  have CB : Hid (∀ V, Below w26.heap.size w26 V → Blk V w.heap.size [.slice a1 l1 c1, .slice a2 l2 c2, .slice a3 l3 c3]) := hide (fun V b => (unhide PB).below b)
  refine wp_region_flagsA (by kernel_rfl) (by kernel_rfl) (UpRJ w26 la1 ll1 lc1 rs a1 a2 a3 l1 c1 l2 c2 l3 c3 z1 z2 z3 ph ta1 tl1 tc1 ts (up1 rs z1 z2 z3 ts ph) (up2 rs z1 z2 z3 ts ph) (up3 rs z1 z2 z3 ts ph) (upT rs z1 z2 z3 ts ph) (upB rs z1 z2 z3 ts ph) 145 146 147 148 149 150 151 152 144 153 154 155 22 23 24) ?_ ?_ ?_
  · exact UpRJ.mk (v1 := undef) (v2 := undef) (v3 := undef) (v4 := undef) (v5 := undef) (v6 := undef) (v7 := undef) (v8 := undef) (v9 := undef) (v10 := undef) (v11 := undef) (v12 := undef) (v13 := undef) (v14 := undef) (v15 := undef) (x1 := .int .i64 ph) (x2 := .int .i64 ph) (x3 := .int .i64 ph) (x4 := .int .i64 ph) (A := 0) ⟨(bel0d' 1 : Below w26.heap.size w26 (w26.drewN 1)), (fun h => by cases h), (fun h => by cases h), (fun h => by cases h), (fun h => by cases h), (fun h => by cases h), (fun h => by cases h), (fun h => by cases h), (fun h => by cases h), (fun h => by cases h), (fun h => by cases h), (fun h => by cases h), (fun h => by cases h), (fun h => by cases h), (fun h => by cases h), (fun h => by cases h), (fun h => by cases h), (fun h => by cases h), (fun h => by cases h), (fun h => by cases h), (fun h => by cases h), (fun h => by cases h), (fun h => by cases h), (fun h => by cases h)⟩ (by kernel_rfl)
  rotate_left 1
  · rintro l a V i o ho hl hd ⟨v1, v2, v3, v4, v5, v6, v7, v8, v9, v10, v11, v12, v13, v14, v15, x1, x2, x3, x4, A, rfl, K⟩
    have hi : i < 16 := (Array.getElem?_eq_some_iff.1 ho).1
    rcases (show i = 0 ∨ i = 1 ∨ i = 2 ∨ i = 3 ∨ i = 4 ∨ i = 5 ∨ i = 6 ∨ i = 7 ∨ i = 8 ∨ i = 9 ∨ i = 10 ∨ i = 11 ∨ i = 12 ∨ i = 13 ∨ i = 14 ∨ i = 15 from by omega) with rfl | rfl | rfl | rfl | rfl | rfl | rfl | rfl | rfl | rfl | rfl | rfl | rfl | rfl | rfl | rfl
    · simp at ho
      subst ho
      have HK := hide (K.step0)
      clear K hd hl
      go_wp2_with fail
      exact ⟨rfl, UpRJ.mk (unhide HK) (by kernel_rfl)⟩
    · simp at ho
      subst ho
      have d0 : l 0 = true := hd ⟨0, .data⟩ (by simp) rfl
      have e1 := K.e0 d0
      subst e1
      have HR := hide ((unhide R0).below ((unhide B).trans (K.bel.mono (unhide B).size)))
      have HK0 := hide K
      clear K hd hl d0
      go_wp2_with (go_at_call 8; refine (toWarnRuleS_own _ _ _ rs _ (unhide HR) hl1 (unhide HA)).mono ?_; rintro e V2 ⟨rfl, o2, b2⟩; have HK := hide ((unhide HK0).step1 b2 ⟨_, _, rfl, o2⟩); clear o2 b2)
      exact ⟨rfl, UpRJ.mk (unhide HK) (by kernel_rfl)⟩
    · simp at ho
      subst ho
      have cb := unhide CB V K.bel
      have y0 : V.cell? ⟨w.heap.size, 0, none⟩ = some (.slice a1 l1 c1) := cb.c 0 (by simp)
      have y1 : V.cell? ⟨w.heap.size, 1, none⟩ = some (.slice a2 l2 c2) := cb.c 1 (by simp)
      have y2 : V.cell? ⟨w.heap.size, 2, none⟩ = some (.slice a3 l3 c3) := cb.c 2 (by simp)
      have HK := hide K.step2
      clear K hd hl cb
      go_wp2_with fail
      exact ⟨rfl, UpRJ.mk (unhide HK) (by kernel_rfl)⟩
    · simp at ho
      subst ho
      have d2 : l 2 = true := hd ⟨2, .data⟩ (by simp) rfl
      have e1 := K.e2 d2
      subst e1
      have HR := hide ((unhide P0).below ((unhide B).trans (K.bel.mono (unhide B).size)))
      have HK0 := hide K
      clear K hd hl d2
      go_wp2_with (go_at_call 9; refine (toPanel_own _ _ _ _ _ _ _ _ _ z1 z2 z3 _ (unhide HR) h1 h2 h3).mono ?_; rintro e V2 ⟨⟨g1, g2, g3, rfl, o2⟩, b2⟩; have HK := hide ((unhide HK0).step3 b2 ⟨_, _, _, rfl, o2.read⟩); clear o2 b2)
      exact ⟨rfl, UpRJ.mk (unhide HK) (by kernel_rfl)⟩
    · simp at ho
      subst ho
      have HK := hide (K.step4)
      clear K hd hl
      go_wp2_with fail
      exact ⟨rfl, UpRJ.mk (unhide HK) (by kernel_rfl)⟩
    · simp at ho
      subst ho
      have HK := hide (K.step5)
      clear K hd hl
      go_wp2_with fail
      exact ⟨rfl, UpRJ.mk (unhide HK) (by kernel_rfl)⟩
    · simp at ho
      subst ho
      have d5 : l 5 = true := hd ⟨5, .data⟩ (by simp) rfl
      have e1 := K.e5 d5
      subst e1
      have HR := hide ((unhide T0).below ((unhide B).trans (K.bel.mono (unhide B).size)))
      have HK0 := hide K
      clear K hd hl d5
      go_wp2_with (go_at_call 10; refine (toStringS_own _ _ _ ts _ (unhide HR) ht1).mono ?_; rintro e V2 ⟨rfl, o2, b2⟩; have HK := hide ((unhide HK0).step6 b2 ⟨_, rfl, o2.row⟩); clear o2 b2)
      exact ⟨rfl, UpRJ.mk (unhide HK) (by kernel_rfl)⟩
    · simp at ho
      subst ho
      have d1 : l 1 = true := hd ⟨1, .data⟩ (by simp) rfl
      have d3 : l 3 = true := hd ⟨3, .data⟩ (by simp) rfl
      have d4 : l 4 = true := hd ⟨4, .data⟩ (by simp) rfl
      have d6 : l 6 = true := hd ⟨6, .data⟩ (by simp) rfl
      have e1 := K.e4 d4
      have ns : l 13 = false := by cases c : l 13; rfl; have := (K.cs1 c).1; rw [hl] at this; cases this
      obtain ⟨gr, hr2, e2, o2⟩ := K.e1 d1 ns
      obtain ⟨g1, g2, g3, e3, o3⟩ := K.e3 d3 ns
      obtain ⟨g4, e4, o4⟩ := K.e6 d6 ns
      have HR := hide (o2.row (unhide HFI))
      have HP := hide o3
      have HT := hide o4
      have HL := hide hl
      have HK0 := hide K
      subst e1
      subst e2
      subst e3
      subst e4
      clear K hd hl d1 d3 d4 d6 ns o2 o3 o4
      go_wp2_with (go_at_call 11; refine (implUpdate14_any _ _ _ rs _ _ _ _ _ _ _ _ _ z1 z2 z3 ph _ _ _ ts _ (unhide HR) (unhide HP) (unhide HT) (unhide F1) (unhide F2) (unhide F3) (unhide FT)).mono ?_; rintro e V2 ⟨p1, q1, p2, q2, p3, q3, p4, q4, rfl, o2, o4, f4, b2⟩; have HK := hide ((unhide HK0).step7 (unhide HL) b2 ⟨⟨p1, q1, p2, q2, p3, q3, rfl, rfl, rfl, o2⟩, txv_of o4 f4⟩); clear o2 o4 f4 b2)
      exact ⟨rfl, UpRJ.mk (unhide HK) (by kernel_rfl)⟩
    · simp at ho
      subst ho
      have d7 : l 7 = true := hd ⟨7, .data⟩ (by simp) rfl
      have e1 := (K.e7 d7).1
      subst e1
      have HK := hide (K.step8 d7)
      clear K hd hl d7
      go_wp2_with fail
      exact ⟨rfl, UpRJ.mk (unhide HK) (by kernel_rfl)⟩
    · simp at ho
      subst ho
      have d8 : l 8 = true := hd ⟨8, .data⟩ (by simp) rfl
      have e1 := K.e8 d8
      subst e1
      have HK := hide (K.step9 (K.cl8 d8))
      clear K hd hl d8
      go_wp2_with fail
      exact ⟨rfl, UpRJ.mk (unhide HK) (by kernel_rfl)⟩
    · simp at ho
      subst ho
      have d8 : l 8 = true := hd ⟨8, .data⟩ (by simp) rfl
      have e1 := K.e8 d8
      subst e1
      have HK := hide (K.step10 (K.cl8 d8))
      clear K hd hl d8
      go_wp2_with fail
      exact ⟨rfl, UpRJ.mk (unhide HK) (by kernel_rfl)⟩
    · simp at ho
      subst ho
      have d8 : l 8 = true := hd ⟨8, .data⟩ (by simp) rfl
      have e1 := K.e8 d8
      subst e1
      have HK := hide (K.step11 (K.cl8 d8))
      clear K hd hl d8
      go_wp2_with fail
      exact ⟨rfl, UpRJ.mk (unhide HK) (by kernel_rfl)⟩
    · simp at ho
      subst ho
      have HK := hide (K.step12 29 hl)
      clear K hd hl
      go_wp2_with fail
      exact ⟨rfl, UpRJ.mk (unhide HK) (by kernel_rfl)⟩
    · simp at ho
      subst ho
      have d9 : l 9 = true := hd ⟨9, .data⟩ (by simp) rfl
      have d12 : l 12 = true := hd ⟨12, .data⟩ (by simp) rfl
      have e1 := K.e9 d9
      have dc := K.cl9 d9
      have eA := K.e12 d12
      have kr := eA.2.2
      rw [hl] at kr
      have e2 := eA.1
      obtain ⟨_, _, _, _, _, _, u1, u2, u3, _⟩ := (K.e7 dc).2.1
      have HK := hide (K.step13 hl dc d12)
      have x0 := kr.c 0 (by simp)
      have x1' := kr.c 1 (by simp)
      have x2' := kr.c 2 (by simp)
      have f0 := kr.f 0 (by simp)
      have f1 := kr.f 1 (by simp)
      have f2 := kr.f 2 (by simp)
      subst e1
      subst e2
      subst u1
      subst u2
      subst u3
      clear K hd hl d9 d12 dc eA kr
      go_wp2_with fail
      exact ⟨rfl, UpRJ.mk (unhide HK) (by kernel_rfl)⟩
    · simp at ho
      subst ho
      have d10 : l 10 = true := hd ⟨10, .data⟩ (by simp) rfl
      have e1 := K.e10 d10
      obtain ⟨q4, q5, e2⟩ := (K.e7 (K.cl10 d10)).2.2.1
      have HK := hide (K.step14 (K.cl10 d10))
      subst e2
      subst e1
      clear K hd hl d10
      go_wp2_with fail
      exact ⟨rfl, UpRJ.mk (unhide HK) (by kernel_rfl)⟩
    · simp at ho
      subst ho
      have d11 : l 11 = true := hd ⟨11, .data⟩ (by simp) rfl
      have e1 := K.e11 d11
      subst e1
      have HK := hide (K.step15 (K.cl11 d11))
      clear K hd hl d11
      go_wp2_with fail
      exact ⟨rfl, UpRJ.mk (unhide HK) (by kernel_rfl)⟩
  rintro l a w27 hall ⟨Hv1, Hv2, Hv3, Hv4, Hv5, Hv6, Hv7, Hv8, Hv9, Hv10, Hv11, Hv12, Hv13, Hv14, Hv15, Hx1, Hx2, Hx3, Hx4, HA, rfl, K⟩
  have b := K.bel
  have sH := (K.e12 (hall 12 (by decide))).2.1
  have kH := (K.e12 (hall 12 (by decide))).2.2
  rw [hall 13 (by decide)] at kH
  have HP := hide (K.e7 (hall 7 (by decide))).2.1
  have HP4 := hide (K.e7 (hall 7 (by decide))).2.2
  have HK : Hid (Blk w27 HA [Hx1, Hx2, Hx3]) := hide kH
  have HS : Hid (w26.heap.size ≤ HA) := hide sH
  have e8 := (K.e12 (hall 12 (by decide))).1
  have e9 := K.e15 (hall 15 (by decide))
  have e10 := K.e14 (hall 14 (by decide))
  subst e8
  subst e9
  subst e10
  clear CB K hall sH kH
  have PB := hide ((unhide PB).below b)
  have WK := hide ((unhide WK).below b)
  have WO := hide ((unhide WO).below b)
  have WT := hide ((unhide WT).below b)
  have GK := hide ((unhide GK).below b)
  have GO := hide ((unhide GO).below b)
  have GT := hide ((unhide GT).below b)
  have B := hide ((unhide B).trans (b.mono (unhide B).size))
  clear b
  have HL := hide (unhide HP).lies
  have HL4 := hide (unhide HP4).lies
  have HTT := hide (unhide HK).lt
  obtain ⟨Hp1, Hq1, Hp2, Hq2, Hp3, Hq3, u1, u2, u3, po⟩ := unhide HP
  obtain ⟨⟨Hp4, Hq4, u4⟩, tO, tf⟩ := unhide HP4
  have HO := hide po
  have HT := hide tO
  have HF := hide tf
  subst u1
  subst u2
  subst u3
  subst u4
  clear po tO tf HP HP4
  have cHK0 : w27.cell? ⟨HA, 0, none⟩ = some (.slice Hp1 (up1 rs z1 z2 z3 ts ph).length Hq1) := (unhide HK).c 0 (by simp)
  have cHK1 : w27.cell? ⟨HA, 1, none⟩ = some (.slice Hp2 (up2 rs z1 z2 z3 ts ph).length Hq2) := (unhide HK).c 1 (by simp)
  have cHK2 : w27.cell? ⟨HA, 2, none⟩ = some (.slice Hp3 (up3 rs z1 z2 z3 ts ph).length Hq3) := (unhide HK).c 2 (by simp)
  have cWK0 : w27.cell? ⟨WA, 0, none⟩ = some (.slice Wp1 (up1 rs z1 z2 z3 ts ph).length Wq1) := (unhide WK).c 0 (by simp)
  have cWK1 : w27.cell? ⟨WA, 1, none⟩ = some (.slice Wp2 (up2 rs z1 z2 z3 ts ph).length Wq2) := (unhide WK).c 1 (by simp)
  have cWK2 : w27.cell? ⟨WA, 2, none⟩ = some (.slice Wp3 (up3 rs z1 z2 z3 ts ph).length Wq3) := (unhide WK).c 2 (by simp)
  go_wp2_with fail
  clear cHK0 cHK1 cHK2 cWK0 cWK1 cWK2
  refine (eqPanel_same _ _ _ _ _ _ _ _ _ _ _ _ _ _ _ (up1 rs z1 z2 z3 ts ph) (up2 rs z1 z2 z3 ts ph) (up3 rs z1 z2 z3 ts ph) _ (unhide HO).read (unhide WO).read).mono ?_
  rintro x w28 ⟨rfl, b⟩
  have PB := hide ((unhide PB).below b)
  have WK := hide ((unhide WK).below b)
  have WO := hide ((unhide WO).below b)
  have WT := hide ((unhide WT).below b)
  have GK := hide ((unhide GK).below b)
  have GO := hide ((unhide GO).below b)
  have GT := hide ((unhide GT).below b)
  have HK := hide ((unhide HK).below b)
  have HO := hide ((unhide HO).below b)
  have HT := hide ((unhide HT).below b)
  have B := hide ((unhide B).trans (b.mono (unhide B).size))
  clear b
  go_wp2_with fail
  refine (eqStringS_two _ _ _ _ _ _ (upT rs z1 z2 z3 ts ph) _ (unhide HT).row (unhide WT).row).mono ?_
  rintro x w29 ⟨rfl, b⟩
  have PB := hide ((unhide PB).below b)
  have WK := hide ((unhide WK).below b)
  have WO := hide ((unhide WO).below b)
  have WT := hide ((unhide WT).below b)
  have GK := hide ((unhide GK).below b)
  have GO := hide ((unhide GO).below b)
  have GT := hide ((unhide GT).below b)
  have HK := hide ((unhide HK).below b)
  have HO := hide ((unhide HO).below b)
  have HT := hide ((unhide HT).below b)
  have B := hide ((unhide B).trans (b.mono (unhide B).size))
  clear b
  have cGK0 : w29.cell? ⟨w9.heap.size, 0, none⟩ = some (.slice Gp1 (up1 rs z1 z2 z3 ts ph).length Gq1) := (unhide GK).c 0 (by simp)
  have cGK1 : w29.cell? ⟨w9.heap.size, 1, none⟩ = some (.slice Gp2 (up2 rs z1 z2 z3 ts ph).length Gq2) := (unhide GK).c 1 (by simp)
  have cGK2 : w29.cell? ⟨w9.heap.size, 2, none⟩ = some (.slice Gp3 (up3 rs z1 z2 z3 ts ph).length Gq3) := (unhide GK).c 2 (by simp)
  go_wp2_with fail
  clear cGK0 cGK1 cGK2
  refine (heldPanel_any _ _ _ _ _ _ _ _ _ _ (up1 rs z1 z2 z3 ts ph) (up2 rs z1 z2 z3 ts ph) (up3 rs z1 z2 z3 ts ph) 1 _ (unhide GO) rfl s1 rfl s2 rfl s3 (by omega) (by omega)).mono ?_
  rintro x w30 ⟨rfl, b⟩
  have PB := hide ((unhide PB).below b)
  have WK := hide ((unhide WK).below b)
  have WO := hide ((unhide WO).below b)
  have WT := hide ((unhide WT).below b)
  have GK := hide ((unhide GK).below b)
  have GO := hide ((unhide GO).below b)
  have GT := hide ((unhide GT).below b)
  have HK := hide ((unhide HK).below b)
  have HO := hide ((unhide HO).below b)
  have HT := hide ((unhide HT).below b)
  have B := hide ((unhide B).trans (b.mono (unhide B).size))
  clear b
  have n1 : ¬ (1 + ((up1 rs z1 z2 z3 ts ph).length : Int) + ((up2 rs z1 z2 z3 ts ph).length : Int) + ((up3 rs z1 z2 z3 ts ph).length : Int)) < 0 := by omega
  go_wp2_with fail
  clear n1
  refine (heldStringS_bel _ _ _ (upT rs z1 z2 z3 ts ph) (1 + ((up1 rs z1 z2 z3 ts ph).length : Int) + ((up2 rs z1 z2 z3 ts ph).length : Int) + ((up3 rs z1 z2 z3 ts ph).length : Int)) _ (unhide GT).row rfl s4 (by omega) (by omega)).mono ?_
  rintro x w31 ⟨rfl, b⟩
  have PB := hide ((unhide PB).below b)
  have WK := hide ((unhide WK).below b)
  have WO := hide ((unhide WO).below b)
  have WT := hide ((unhide WT).below b)
  have GK := hide ((unhide GK).below b)
  have GO := hide ((unhide GO).below b)
  have GT := hide ((unhide GT).below b)
  have HK := hide ((unhide HK).below b)
  have HO := hide ((unhide HO).below b)
  have HT := hide ((unhide HT).below b)
  have B := hide ((unhide B).trans (b.mono (unhide B).size))
  clear b
  have n1 : ¬ ((1 + ((up1 rs z1 z2 z3 ts ph).length : Int) + ((up2 rs z1 z2 z3 ts ph).length : Int) + ((up3 rs z1 z2 z3 ts ph).length : Int)) + ((upT rs z1 z2 z3 ts ph).length : Int)) < 0 := by omega
  have n2 : (((1 + ((up1 rs z1 z2 z3 ts ph).length : Int) + ((up2 rs z1 z2 z3 ts ph).length : Int) + ((up3 rs z1 z2 z3 ts ph).length : Int)) + ((upT rs z1 z2 z3 ts ph).length : Int)) != ((1 + ((up1 rs z1 z2 z3 ts ph).length : Int) + ((up2 rs z1 z2 z3 ts ph).length : Int) + ((up3 rs z1 z2 z3 ts ph).length : Int)) + ((upT rs z1 z2 z3 ts ph).length : Int))) = false := by simp
  go_wp2_with fail
  go_ret
  exact ⟨rfl, unhide B⟩

end Go.Proofs.YtbaocifpifbldawGreat
