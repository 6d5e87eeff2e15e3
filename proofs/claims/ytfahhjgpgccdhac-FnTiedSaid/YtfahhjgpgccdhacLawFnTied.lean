/-
  The law FnTied returns true at every list of bytes and writes nothing that was there: the walk. No condition.
-/
import Derived.Test.YtfahhjgpgccdhacAtFix
import Derived.Test.YtfahhjgpgccdhacDrawNet
import Derived.Test.YtfahhjgpgccdhacTiedFacts
import Derived.Test.YtfahhjgpgccdhacClSp3
import Derived.Test.YtfahhjgpgccdhacClIm2
namespace Go.Proofs.Ytfahhjgpgccdhac
open Go.RowKit

theorem implShed_yes (N : Nat) (a1 a2 a3 : Option Addr) (l1 c1 l2 c2 l3 c3 : Nat) (ss : List Sr) (ts : List Ti) (us : List Us) (w : World) (hr : NetIn w a1 a2 a3 l1 l2 l3 ss ts us) (hok : netB (N : Int) ss ts us = true) :
    Calls Try.prog 38 #[.agg #[.int .i64 (N : Int), .slice a1 l1 c1, .slice a2 l2 c2, .slice a3 l3 c3]] w fun e w' => ∃ a c, e = .returned (.tuple #[.slice a (shR N ss ts us).length c, .bool true]) ∧ OwnI w' w.heap.size (.slice a (shR N ss ts us).length c) (shR N ss ts us) ∧ Below w.heap.size w w' := by
  refine (implShed_any (N : Int) a1 a2 a3 l1 c1 l2 c2 l3 c3 ss ts us w hr).mono ?_
  rintro e w' ⟨a, c, rfl, h1, _, h2⟩
  have e1 : shL (N : Int) ss ts us = shR N ss ts us := by simp [shL, hok]
  rw [e1] at h1
  exact ⟨a, c, by rw [e1, hok], h1, h2⟩
set_option maxRecDepth 20000 in
set_option maxHeartbeats 3000000 in
theorem firstFed_any (N : Nat) (a1 a2 a3 : Option Addr) (l1 c1 l2 c2 l3 c3 : Nat) (ss : List Sr) (ts : List Ti) (us : List Us) (w : World) (hr : NetIn w a1 a2 a3 l1 l2 l3 ss ts us) (hok : netB (N : Int) ss ts us = true) :
    Calls Try.prog 16 #[.agg #[.int .i64 (N : Int), .slice a1 l1 c1, .slice a2 l2 c2, .slice a3 l3 c3]] w fun e w' => e = .returned (.bool (wellB N ss us ts)) ∧ Below w.heap.size w w' := by
  obtain ⟨B, hB⟩ : ∃ B, wellB N ss us ts = B := ⟨_, rfl⟩
  rw [hB]
  have WB0 := hide hB
  have R := hide hr
  have HOK := hide hok
  have KP : Hid (Blk (w.alloc (Obj.cells #[.int .i64 (N : Int), .slice a1 l1 c1, .slice a2 l2 c2, .slice a3 l3 c3] 44)) w.heap.size [.int .i64 (N : Int), .slice a1 l1 c1, .slice a2 l2 c2, .slice a3 l3 c3]) := hide (Blk.new (w := w) [.int .i64 (N : Int), .slice a1 l1 c1, .slice a2 l2 c2, .slice a3 l3 c3] 44)
  have HB := hide (bel1 (w := w) (Obj.cells #[.int .i64 (N : Int), .slice a1 l1 c1, .slice a2 l2 c2, .slice a3 l3 c3] 44))
  have Z3 := hide hr.r3.len_eq
  have hu40 := (net_facts hok).2.1.2.2
  have q3 : l3 ≤ 40 := by have := hr.r3.len_eq; omega
  clear hr hok hu40 hB
  go_enter Try.func16, Try.ntmps16
  go_wp2_with fail
  refine (implShed_yes N a1 a2 a3 l1 c1 l2 c2 l3 c3 ss ts us _ ((unhide R).below (unhide HB)) (unhide HOK)).mono ?_
  rintro e w1 ⟨a, c, rfl, o1, b1⟩
  obtain ⟨zs, hzs⟩ : ∃ zs, shR N ss ts us = zs := ⟨_, rfl⟩
  have hlt : ∀ i, i < zs.length → 0 ≤ nth zs i ∧ nth zs i < us.length := fun i hi => by rw [← hzs] at hi ⊢; exact shR_lt hi
  have WB : Hid (rankB us zs = B) := hide (by rw [← unhide WB0, wellB, hzs])
  have hl1 : zs.length ≤ 40 := by
    rw [← hzs]
    have := unK_len (outr (isleR N ts) us (shS N ss ts us) 10).F us.length
    have := unhide Z3
    unfold shR; omega
  rw [hzs] at o1 ⊢
  clear hzs WB0
  have HC : Hid (∀ i, i < zs.length → ∃ g o, a = some ⟨g, o, none⟩ ∧ w1.cell? ⟨g, o + i, none⟩ = some (.int .i64 (nth zs i))) := hide (fun i hi => o1.row.cells i hi)
  have HLT := hide hlt
  obtain ⟨M, hM⟩ : ∃ M, zs.length = M := ⟨_, rfl⟩
  rw [hM] at hl1 ⊢
  have HM := hide hM
  have HB1 := hide ((unhide HB).trans (b1.mono (unhide HB).size))
  have hc3 : w1.cell? ⟨w.heap.size, 3, none⟩ = some (.slice a3 l3 c3) := ((unhide KP).below b1).c 3 (by simp)
  have R1 := hide ((unhide R).r3.below (unhide HB1))
  clear o1 b1 hlt hM R KP HB
  go_wp2_with fail
  go_loopw [5] (fun p wr => ∃ k nq : Nat, p = .int .i64 (k : Int) ∧ k ≤ M ∧ wr = w1.drewN nq ∧ Hid (∀ j, j < k → (elAt us (nth zs j).toNat).a2 ≠ 0)) (fun p _ => M - (intOf p).toNat)
  case atStart => exact ⟨0, 0, rfl, Nat.zero_le _, rfl, hide (fun j hj => by omega)⟩
  case round =>
    obtain ⟨k, nr, rfl, hk, hwr, HJ⟩ := hrel
    subst wr
    by_cases hkm : k < M
    · have hkm2 : (k : Int) < (M : Int) := by omega
      have hk0 : (0 : Int) ≤ (k : Int) := by omega
      obtain ⟨g, go, hag, zk⟩ := (unhide HC) k (by rw [unhide HM]; exact hkm)
      subst hag
      obtain ⟨x0, x1⟩ := (unhide HLT) k (by rw [unhide HM]; exact hkm)
      obtain ⟨J, hJ⟩ : ∃ J : Nat, nth zs k = (J : Int) := ⟨(nth zs k).toNat, by omega⟩
      have HJJ := hide hJ
      rw [hJ] at zk x0 x1
      rw [unhide Z3] at x1
      rcases (unhide R1).open_ with ⟨h0, _⟩ | ⟨bb, off, hbb, _, hc⟩
      · omega
      subst hbb
      have ej : w1.cell? ⟨bb, off + J * 3 + 2, none⟩ = some (.int .i64 (elAt us J).a2) := hc J (by omega) 2 (by omega)
      obtain ⟨rk, hrk⟩ : ∃ rk, (elAt us J).a2 = rk := ⟨_, rfl⟩
      rw [hrk] at ej
      clear hc hJ
      by_cases h0 : rk = 0
      · subst h0
        have HR : Hid (rankB us zs = false) := hide (rankB_no (i := k) (by rw [unhide HM]; exact hkm) (by rw [unhide HJJ]; simpa using hrk))
        clear hrk
        go_wp2_with fail
        go_quiet (fail)
        go_wp2_with fail
        go_ret
        exact ⟨by rw [← unhide WB, unhide HR]; rfl, (unhide HB1).trans (((bel0d' nr).trans ((bel0d' nq).mono (Nat.le_refl _))).mono (unhide HB1).size)⟩
      · have HJ1 : Hid (∀ j, j < k + 1 → (elAt us (nth zs j).toNat).a2 ≠ 0) := hide (fun j hj => by
          rcases Nat.lt_succ_iff_lt_or_eq.1 hj with h | h
          · exact unhide HJ j h
          · subst h; rw [unhide HJJ]; simpa [hrk] using h0)
        clear hrk HJ
        go_wp2_with fail
        go_quiet (fail)
        go_wp2_with fail
        go_roundw
        case rel => exact ⟨k + 1, _, by go_num, by omega, rfl, HJ1⟩
        case measure => simp [intOf]; omega
    · obtain rfl : M = k := by omega
      have hkm2 : ¬ (M : Int) < (M : Int) := by omega
      have HR : Hid (rankB us zs = true) := hide (rankB_yes (fun i hi => (unhide HJ) i (by rw [unhide HM] at hi; exact hi)))
      go_wp2_with fail
      go_ret
      exact ⟨by rw [← unhide WB, unhide HR]; rfl, (unhide HB1).trans (Below.mono (bel0d' nr) (unhide HB1).size)⟩

set_option maxHeartbeats 1000000 in
theorem lawFnTied_big (a : Option Addr) (len cap : Nat) (w : World) (h : (1048576 : Int) < len) :
    Calls Try.prog 5 #[.slice a len cap] w fun e w' => e = .returned (.bool true) ∧ Below w.heap.size w w' := by
  have hd : decide ((1048576 : Int) < len) = true := by simpa using h
  go_enter Try.func5, Try.ntmps5
  go_wp2_with fail
  refine (big_any a len cap _).mono ?_
  rintro e w' ⟨rfl, hw⟩
  subst w'
  rw [hd]
  go_wp2
  go_ret
  exact ⟨rfl, Below.refl _ _⟩

set_option maxRecDepth 20000 in
set_option maxHeartbeats 8000000 in
theorem lawFnTied_small (a : Option Addr) (len cap : Nat) (w : World) (h : ¬ (1048576 : Int) < len) (hb : Bytes w a len) (hin : ∀ b off, a = some ⟨b, off, none⟩ → b < w.heap.size) :
    Calls Try.prog 5 #[.slice a len cap] w fun e w' => e = .returned (.bool true) ∧ Below w.heap.size w w' := by
  have hd0 : decide ((1048576 : Int) < len) = false := by simpa using h
  have HY := hide hb
  have HIN := hide hin
  clear hb hin h
  go_enter Try.func5, Try.ntmps5
  go_wp2_with fail
  refine (big_any a len cap _).mono ?_
  rintro e w' ⟨rfl, hw⟩
  subst w'
  rw [hd0]
  go_wp2_with fail
  refine (drawNet_any a len cap w (unhide HY) (unhide HIN)).mono ?_
  rintro x w1 ⟨n, a1, a2, a3, l1, c1, l2, c2, l3, c3, ss, ts, us, rfl, ni, hok, b1⟩
  obtain ⟨N, rfl⟩ : ∃ N : Nat, n = (N : Int) := ⟨n.toNat, by have := in_facts (netB_parts hok).1; omega⟩
  have NI := hide ni
  have HOK := hide hok
  have HB1 := hide b1
  have q2 : l2 ≤ 16 := by have := (net_facts hok).2.1.2.1; have := ni.read.r2.len_eq; omega
  have Z2 := hide ni.read.r2.len_eq
  obtain ⟨V, hV⟩ : ∃ V, V = w1.alloc (Obj.cells #[.int .i64 (N : Int), .slice a1 l1 c1, .slice a2 l2 c2, .slice a3 l3 c3] 44) := ⟨_, rfl⟩
  obtain ⟨P, hP⟩ : ∃ P, w1.heap.size = P := ⟨_, rfl⟩
  have bV : Below w1.heap.size w1 V := by rw [hV]; exact bel1 _
  have KP : Hid (Blk V P [.int .i64 (N : Int), .slice a1 l1 c1, .slice a2 l2 c2, .slice a3 l3 c3]) := hide (by rw [hV, ← hP]; exact Blk.new _ _)
  have sV : Hid (V.heap.size = P + 1) := hide (by rw [hV, ← hP]; simp)
  have HBV := hide ((unhide HB1).trans (bV.mono (unhide HB1).size))
  have hPw : w.heap.size ≤ P := by rw [← hP]; exact (unhide HB1).size
  have BV1 : Hid (Below P w1 V) := hide (by rw [← hP]; exact bV)
  have HP := hide hP
  have HV := hide hV
  clear ni hok b1 bV hV hP HB1 HY HIN
  go_wp2_with fail
  rw [← unhide HV, unhide HP]
  clear HV
  refine (implCloseFor_any (N : Int) a1 a2 a3 l1 c1 l2 c2 l3 c3 ss ts us 3 _ ((unhide NI).read.below (by have h := unhide BV1; rw [← unhide HP] at h; exact h))).mono ?_
  rintro x w2 ⟨av, cv, rfl, ov, _, b2⟩
  obtain ⟨Z, hZ⟩ : ∃ Z, clF (N : Int) ss ts us 3 = Z := ⟨_, rfl⟩
  have hZT : clT N ss ts us 3 = Z := by rw [← hZ, clF_yes (by simp [clOk, unhide HOK, inB])]; rfl
  have e1 : clL (N : Int) ss ts us 3 = Z.getD [] := by rw [clL, hZ]
  have e2 : clB (N : Int) ss ts us 3 = Z.isSome := by rw [clB, hZ]
  rw [e1] at ov ⊢
  rw [e2]
  have HE2 := hide e2
  have HE1 := hide e1
  have HZT := hide hZT
  have KP2 := hide ((unhide KP).below b2)
  have HB2 := hide ((unhide HBV).trans (b2.mono (unhide HBV).size))
  have BV2 : Hid (Below P w1 w2) := hide ((unhide BV1).trans (b2.mono (by have := unhide sV; omega)))
  have OV := hide ov
  have p0 : w2.cell? ⟨P, 0, none⟩ = some (.int .i64 (N : Int)) := (unhide KP2).c 0 (by simp)
  have p1 : w2.cell? ⟨P, 1, none⟩ = some (.slice a1 l1 c1) := (unhide KP2).c 1 (by simp)
  have p2 : w2.cell? ⟨P, 2, none⟩ = some (.slice a2 l2 c2) := (unhide KP2).c 2 (by simp)
  have p3 : w2.cell? ⟨P, 3, none⟩ = some (.slice a3 l3 c3) := (unhide KP2).c 3 (by simp)
  clear ov b2 e1 e2 hZ hZT KP BV1 HBV
  go_wp2_with fail
  refine (specCloseFor_any (N : Int) a1 a2 a3 l1 c1 l2 c2 l3 c3 ss ts us 3 _ ((unhide NI).read.below (by have h := unhide BV2; rw [← unhide HP] at h; exact h))).mono ?_
  rintro x w3 ⟨ax, cx, rfl, _, _, b3⟩
  rw [unhide HE2]
  have KP3 := hide ((unhide KP2).below b3)
  have HB3 := hide ((unhide HB2).trans (b3.mono (unhide HB2).size))
  have BV3 : Hid (Below P w1 w3) := hide ((unhide BV2).trans (b3.mono (by have := (unhide KP2).lt; omega)))
  have OV3 := hide ((unhide OV).below b3)
  have hq : (Z.isSome != Z.isSome) = false := by simp
  clear b3 p0 p1 p2 p3 KP2 BV2 OV HB2
  have p0 : w3.cell? ⟨P, 0, none⟩ = some (.int .i64 (N : Int)) := (unhide KP3).c 0 (by simp)
  have p1 : w3.cell? ⟨P, 1, none⟩ = some (.slice a1 l1 c1) := (unhide KP3).c 1 (by simp)
  have p2 : w3.cell? ⟨P, 2, none⟩ = some (.slice a2 l2 c2) := (unhide KP3).c 2 (by simp)
  have p3 : w3.cell? ⟨P, 3, none⟩ = some (.slice a3 l3 c3) := (unhide KP3).c 3 (by simp)
  go_wp2_with fail
  refine (firstFed_any N a1 a2 a3 l1 c1 l2 c2 l3 c3 ss ts us _ ((unhide NI).read.below (by have h := unhide BV3; rw [← unhide HP] at h; exact h)) (unhide HOK)).mono ?_
  rintro x w4 ⟨rfl, b4⟩
  have KP4 := hide ((unhide KP3).below b4)
  have HB4 := hide ((unhide HB3).trans (b4.mono (unhide HB3).size))
  have BV4 : Hid (Below P w1 w4) := hide ((unhide BV3).trans (b4.mono (by have := (unhide KP3).lt; omega)))
  have OV4 := hide ((unhide OV3).below b4)
  clear b4 p0 p1 p2 p3 KP3 BV3 OV3 HB3 hq
  cases Z with
  | none =>
    have hw := clT_none (unhide HZT)
    rw [hw]
    simp only [Option.isSome_none, Option.getD_none, List.length_nil]
    clear hw HE1 HE2
    go_wp2_with fail
    go_ret
    exact ⟨rfl, unhide HB4⟩
  | some l =>
    obtain ⟨hwl, hol⟩ := clT_some (unhide HZT)
    simp only [Option.isSome_some, Option.getD_some] at OV4 ⊢
    have HOL := hide hol
    obtain ⟨n0, hn0⟩ : ∃ n0, l.length = n0 := ⟨_, rfl⟩
    have HN0 := hide hn0
    have hwn : wellB N ss us ts = ((n0 : Int) == 0) := by
      by_cases e : l = []
      · rw [hwl.2 e]; subst e; simp at hn0; subst hn0; rfl
      · have : wellB N ss us ts = false := by
          cases hq : wellB N ss us ts with
          | false => rfl
          | true => exact absurd (hwl.1 hq) e
        rw [this]
        have : ¬ n0 = 0 := fun h0 => e (List.length_eq_zero_iff.1 (by omega))
        have h2 : ((n0 : Int) == 0) = false := by simp; omega
        rw [h2]
    have hn3 : n0 ≤ 3 := by
      obtain ⟨q, _, h2, h3⟩ := clUp_some _ _ _ (unhide HZT)
      have := clR_len _ _ _ _ h3
      omega
    rw [hn0] at OV4 ⊢
    rw [hwn]
    have p0 : w4.cell? ⟨P, 0, none⟩ = some (.int .i64 (N : Int)) := (unhide KP4).c 0 (by simp)
    have p1 : w4.cell? ⟨P, 1, none⟩ = some (.slice a1 l1 c1) := (unhide KP4).c 1 (by simp)
    have p2 : w4.cell? ⟨P, 2, none⟩ = some (.slice a2 l2 c2) := (unhide KP4).c 2 (by simp)
    have p3 : w4.cell? ⟨P, 3, none⟩ = some (.slice a3 l3 c3) := (unhide KP4).c 3 (by simp)
    clear hol hwl hwn hn0 HE1 HE2 HZT
    obtain ⟨S, hS⟩ : ∃ S, w4.heap.size = S := ⟨_, rfl⟩
    have hPS : P < S := by rw [← hS]; exact (unhide KP4).lt
    have LC : Hid (∀ j, j < n0 → ∃ b off, av = some ⟨b, off, none⟩ ∧ b ≠ P ∧ b < S ∧ w4.cell? ⟨b, off + j, none⟩ = some (.int .i64 (nth l j))) := hide (fun j hj => by
      obtain ⟨b, off, e, hc⟩ := (unhide OV4).row.cells j hj
      have h1 := (unhide OV4).lies b (by rw [e]; rfl)
      have h2 := unhide sV
      exact ⟨b, off, e, by omega, by omega, hc⟩)
    rcases (unhide NI).o2.form with ⟨e0, hts⟩ | ⟨g2, d2, e0, _⟩
    · simp only [Value.slice.injEq] at e0
      obtain ⟨rfl, rfl, rfl⟩ := e0
      subst hts
      have hl0 : l = [] := by
        cases l with
        | nil => rfl
        | cons x t => have h := unhide HOL; simp only [okL] at h; have := h.1; simp at this; omega
      subst hl0
      have hn00 : n0 = 0 := by have := unhide HN0; simpa using this.symm
      subst hn00
      have HW0 : Hid (wellB N ss us [] = true) := hide (unhide HOL)
      obtain ⟨U, hU⟩ : ∃ U, U = w4.alloc (Obj.cells #[] 51) := ⟨_, rfl⟩
      have bU : Below w4.heap.size w4 U := by rw [hU]; exact bel1 _
      have KU := (unhide KP4).below bU
      have x2 : U.cell? ⟨P, 2, none⟩ = some (.slice none 0 0) := KU.c 2 (by simp)
      have x3 : U.frozen? ⟨P, 2, none⟩ = false := KU.f 2 (by simp)
      obtain ⟨V5, hV5⟩ : ∃ V5, V5 = U.setCell ⟨P, 2, none⟩ (.slice (some ⟨S, 0, none⟩) 0 0) := ⟨_, rfl⟩
      have K5 : Blk V5 P [.int .i64 (N : Int), .slice a1 l1 c1, .slice (some ⟨S, 0, none⟩) 0 0, .slice a3 l3 c3] := by rw [hV5]; simpa using KU.set 2 (by simp) (.slice (some ⟨S, 0, none⟩) 0 0)
      have B5 : Hid (Below w.heap.size w V5) := hide (by rw [hV5]; exact ((unhide HB4).trans (bU.mono (unhide HB4).size)).setCell hPw _)
      have BP5 : Below P w1 V5 := by rw [hV5]; exact ((unhide BV4).trans (bU.mono (by omega))).setCell (Nat.le_refl _) _
      have NZ : Hid (NetIn V5 a1 (some ⟨S, 0, none⟩) a3 l1 0 l3 ss [] us) := hide (by
        have h := (unhide NI).read.below (show Below w1.heap.size w1 V5 from by rw [unhide HP]; exact BP5)
        exact ⟨h.r1, ⟨rfl, by simp, fun i hi => by omega⟩, h.r3⟩)
      have z0 : V5.cell? ⟨P, 0, none⟩ = some (.int .i64 (N : Int)) := K5.c 0 (by simp)
      have z1 : V5.cell? ⟨P, 1, none⟩ = some (.slice a1 l1 c1) := K5.c 1 (by simp)
      have z2 : V5.cell? ⟨P, 2, none⟩ = some (.slice (some ⟨S, 0, none⟩) 0 0) := K5.c 2 (by simp)
      have z3 : V5.cell? ⟨P, 3, none⟩ = some (.slice a3 l3 c3) := K5.c 3 (by simp)
      rw [hU] at x2 x3
      have HV5 : Hid (V5 = (w4.alloc (Obj.cells #[] 51)).setCell ⟨P, 2, none⟩ (.slice (some ⟨S, 0, none⟩) 0 0)) := hide (by rw [hV5, hU])
      have HS := hide hS
      clear hU bU KU hV5 K5 BP5 OV4 KP4 BV4 HB4 LC hS
      go_wp2_with fail
      rw [unhide HS, ← unhide HV5]
      go_loopw [9] (fun i wr => i = .int .i64 0 ∧ wr = V5) (fun _ _ => 0)
      case atStart => exact ⟨rfl, rfl⟩
      case round =>
        obtain ⟨rfl, hwr⟩ := hrel
        subst wr
        go_wp2_with fail
        refine (firstFed_any N a1 (some ⟨S, 0, none⟩) a3 l1 c1 0 0 l3 c3 ss [] us _ (unhide NZ) (unhide HOK)).mono ?_
        rintro x w7 ⟨rfl, b7⟩
        rw [unhide HW0]
        have B7 := hide ((unhide B5).trans (b7.mono (unhide B5).size))
        clear b7 z0 z1 z2 z3
        go_wp2_with fail
        go_ret
        exact ⟨rfl, unhide B7⟩
    simp only [Value.slice.injEq] at e0
    obtain ⟨rfl, hl2, rfl⟩ := e0
    clear hl2
    obtain ⟨U, hU⟩ : ∃ U, U = w4.alloc (Obj.cells #[] 51) := ⟨_, rfl⟩
    have bU : Below w4.heap.size w4 U := by rw [hU]; exact bel1 _
    have OU : Hid (OwnE 3 tiC U S 51 (.slice (some ⟨S, 0, none⟩) 0 0) []) := hide (by rw [hU, ← hS]; exact ownE_none (w := w4) (w1 := w4) (Nat.le_refl _))
    have RU : Hid (RowE 3 tiC U (some ⟨g2, 0, none⟩) l2 ts) := hide (((unhide NI).read.below (by have h := unhide BV4; rw [← unhide HP] at h; exact h)).r2.below bU)
    have BU : Hid (Below S w4 U) := hide (by rw [← hS]; exact bU)
    have KU := hide ((unhide KP4).below bU)
    have hUS : U.heap.size = S + 1 := by rw [hU, ← hS]; simp
    have pU : U.cell? ⟨P, 2, none⟩ = some (.slice (some ⟨g2, 0, none⟩) l2 c2) := (unhide KU).c 2 (by simp)
    rw [hU] at pU
    have HUS := hide hUS
    have HU := hide hU
    have HS := hide hS
    clear bU hU hUS hS
    go_wp2_with (at_builtin; rw [← unhide HU]; refine wpList_app_ties rfl _ _ rfl (unhide OU) (by simp [Act.eval, unhide HS]) g2 0 l2 c2 ts rfl (unhide RU) (by omega) (by have := unhide HUS; omega) ?_; intro v9 w9 o9 gr9 n9; obtain ⟨g9, d9, e9, h91, h92⟩ := o9.some_ (fun e => by have := n9 e; simp at this); rw [unhide Z2] at e9; subst e9; have B9 : Hid (Below S w4 w9) := hide ((unhide BU).grown gr9 (by have := unhide HUS; omega) (fun q hq => by have e3 := Option.some.inj (show some S = some q from hq); omega)); have K9 : Hid (Blk w9 P [.int .i64 (N : Int), .slice a1 l1 c1, .slice (some ⟨g2, 0, none⟩) l2 c2, .slice a3 l3 c3]) := hide ((unhide KU).apart gr9 (fun e => by have e3 := Option.some.inj (show some P = some S from e); omega)); have O9 := hide o9; have xa : w9.cell? ⟨P, 2, none⟩ = some (.slice (some ⟨g2, 0, none⟩) l2 c2) := (unhide K9).c 2 (by simp); have xb : w9.frozen? ⟨P, 2, none⟩ = false := (unhide K9).f 2 (by simp); clear o9 gr9 n9)
    obtain ⟨V5, hV5⟩ : ∃ V5, V5 = w9.setCell ⟨P, 2, none⟩ (.slice (some ⟨g9, 0, none⟩) l2 d9) := ⟨_, rfl⟩
    try rw [← hV5]
    have K5 : Hid (Blk V5 P [.int .i64 (N : Int), .slice a1 l1 c1, .slice (some ⟨g9, 0, none⟩) l2 d9, .slice a3 l3 c3]) := hide (by rw [hV5]; simpa using (unhide K9).set 2 (by simp) (.slice (some ⟨g9, 0, none⟩) l2 d9))
    have O5 : Hid (OwnE 3 tiC V5 S 51 (.slice (some ⟨g9, 0, none⟩) l2 d9) ts) := hide (by rw [hV5]; exact (unhide O9).set_other _ (by simp [Value.ownBlock]; omega))
    have B5 : Hid (Below w.heap.size w V5) := hide (by rw [hV5]; exact ((unhide HB4).trans ((unhide B9).mono (by have := (unhide HB4).size; have := unhide HS; omega))).setCell (by simp; exact hPw) _)
    have BP5 : Hid (Below P w1 V5) := hide (by rw [hV5]; exact ((unhide BV4).trans ((unhide B9).mono (by omega))).setCell (Nat.le_refl _) _)
    have L5 : Hid (∀ j, j < n0 → ∃ b off, av = some ⟨b, off, none⟩ ∧ b < S ∧ V5.cell? ⟨b, off + j, none⟩ = some (.int .i64 (nth l j))) := hide (fun j hj => by
      obtain ⟨b, off, e, h1, h2, hc⟩ := (unhide LC) j hj
      refine ⟨b, off, e, h2, ?_⟩
      rw [hV5, World.cell?_setCell_other _ _ _ _ (by intro e; exact h1 (congrArg Addr.block e).symm)]
      exact ((unhide B9).cell h2).trans hc)
    have S5 : Hid (S ≤ V5.heap.size) := hide (by have h1 := (unhide O5).lies g9 rfl; omega)
    clear hV5 K9 O9 B9 xa xb LC KU OU RU BU HU HUS OV4 KP4 BV4 HB4 p0 p1 p2 p3 h91 h92
    go_loopw [9] (fun i wr => ∃ (j : Nat) (tz : List Ti), i = .int .i64 (j : Int) ∧ j ≤ n0 ∧ Hid (Below S V5 wr) ∧ Hid (OwnE 3 tiC wr S 51 (.slice (some ⟨g9, 0, none⟩) l2 d9) tz) ∧ Hid (tz.length = l2) ∧ Hid (netB (N : Int) ss tz us = true) ∧ Hid (okL (wellB N ss us) (l.drop j) tz)) (fun i _ => n0 - (intOf i).toNat)
    case atStart => exact ⟨0, ts, rfl, Nat.zero_le _, hide (Below.refl _ _), O5, Z2, HOK, HOL⟩
    case round =>
      clear O5 HOL HOK Z2
      obtain ⟨j, tz, rfl, hj, BR, OR, ZR, OKR, LR⟩ := hrel
      have k0 : wr.cell? ⟨P, 0, none⟩ = some (.int .i64 (N : Int)) := ((unhide BR).cell hPS).trans ((unhide K5).c 0 (by simp))
      have k1 : wr.cell? ⟨P, 1, none⟩ = some (.slice a1 l1 c1) := ((unhide BR).cell hPS).trans ((unhide K5).c 1 (by simp))
      have k2 : wr.cell? ⟨P, 2, none⟩ = some (.slice (some ⟨g9, 0, none⟩) l2 d9) := ((unhide BR).cell hPS).trans ((unhide K5).c 2 (by simp))
      have k3 : wr.cell? ⟨P, 3, none⟩ = some (.slice a3 l3 c3) := ((unhide BR).cell hPS).trans ((unhide K5).c 3 (by simp))
      have BW : Hid (Below w.heap.size w wr) := hide ((unhide B5).trans ((unhide BR).mono (by omega)))
      by_cases hjn : j < n0
      · have hjn2 : (j : Int) < (n0 : Int) := by omega
        have hj0 : (0 : Int) ≤ (j : Int) := by omega
        obtain ⟨b, off, hav, hbS, hc5⟩ := (unhide L5) j hjn
        obtain ⟨⟨s1, s2⟩, s3, s4⟩ := okL_step (by rw [unhide HN0]; exact hjn) (unhide LR)
        obtain ⟨J, hJ⟩ : ∃ J : Nat, nth l j = (J : Int) := ⟨(nth l j).toNat, by omega⟩
        rw [hJ] at s1 s2 s3 s4 hc5
        simp only [Int.toNat_natCast] at s3 s4
        have hJl : J < l2 := by have := unhide ZR; omega
        have hJ2 : (J : Int) < (l2 : Int) := by omega
        have hJ0 : (0 : Int) ≤ (J : Int) := s1
        have lc : wr.cell? ⟨b, off + j, none⟩ = some (.int .i64 (J : Int)) := ((unhide BR).cell hbS).trans hc5
        obtain ⟨y0, y2⟩ := (unhide OR).here (unhide ZR) J hJl 2 (by omega)
        have y1 : wr.cell? ⟨g9, J * 3 + 2, none⟩ = some (.bool false) := by rw [y0]; simp [tiC, s3]
        have hd3 : ¬ l2 ≤ J := by omega
        have HJN := hide hjn
        clear y0
        have OB := hide (shut_own (unhide OR) (unhide ZR) hJl)
        have lg := ((unhide OR).lies g9 rfl).1
        have NX : Hid (netB (N : Int) ss (shutT tz J) us = true) := hide (netB_shut (unhide OKR) (by rw [unhide ZR]; exact hJl))
        have LX := hide s4
        have ZX : Hid ((shutT tz J).length = l2) := hide (by rw [shutT_len]; exact unhide ZR)
        have hd1 : decide ((J : Int) < 0) = false := by simp
        have hd2 : decide ((l2 : Int) ≤ (J : Int)) = false := by simp; omega
        have HC5 := hide hc5
        subst hav
        clear s1 s2 s3 s4 hJ hc5 LR OKR
        go_wp2_with fail
        go_quiet (fail)
        go_wp2_with fail
        obtain ⟨Q, hQ⟩ : ∃ Q, Q = wr.drewN nq := ⟨_, rfl⟩
        try rw [← hQ]
        have k2q : Q.cell? ⟨P, 2, none⟩ = some (.slice (some ⟨g9, 0, none⟩) l2 d9) := by rw [hQ]; exact k2
        have lcq : Q.cell? ⟨b, off + j, none⟩ = some (.int .i64 (J : Int)) := by rw [hQ]; exact lc
        have y1q : Q.cell? ⟨g9, J * 3 + 2, none⟩ = some (.bool false) := by rw [hQ]; exact y1
        have y2q : Q.frozen? ⟨g9, J * 3 + 2, none⟩ = false := by rw [hQ]; exact y2
        have OQ : Hid (OwnE 3 tiC (Q.setCell ⟨g9, J * 3 + 2, none⟩ (.bool true)) S 51 (.slice (some ⟨g9, 0, none⟩) l2 d9) (shutT tz J)) := hide (by rw [hQ]; exact shut_own ((unhide OR).drewN nq) (unhide ZR) hJl)
        have BQ : Hid (Below S V5 (Q.setCell ⟨g9, J * 3 + 2, none⟩ (.bool true))) := hide (by rw [hQ]; exact ((unhide BR).trans ((bel0d' nq).mono (by have := (unhide BR).size; have := unhide S5; omega))).setCell lg _)
        clear hQ k0 k1 k2 k3 lc y1 y2 OR OB BR
        go_region
        all_goals
          go_wp2_with fail
          go_roundw
          case rel => exact ⟨j + 1, shutT tz J, by go_num, (by have := unhide HJN; omega), hide (by first | exact unhide BQ | exact (unhide BQ).trans ((bel0d' 1).mono (by have := (unhide BQ).size; have := unhide S5; omega))), hide (by first | exact unhide OQ | exact (unhide OQ).drewN 1), ZX, NX, LX⟩
          case measure => simp [intOf]; have := unhide HJN; omega
      · obtain rfl : j = n0 := by omega
        have hjn2 : ¬ (j : Int) < (j : Int) := by omega
        have hwz : wellB N ss us tz = true := by
          have h := unhide LR
          rw [List.drop_eq_nil_of_le (by rw [unhide HN0]; exact Nat.le_refl _)] at h
          exact h
        have HWZ := hide hwz
        have NZ : Hid (NetIn wr a1 (some ⟨g9, 0, none⟩) a3 l1 l2 l3 ss tz us) := hide (by
          have h := (unhide NI).read.below (show Below w1.heap.size w1 wr from by rw [unhide HP]; exact (unhide BP5).trans ((unhide BR).mono (by omega)))
          exact ⟨h.r1, (unhide OR).row, h.r3⟩)
        clear hwz
        go_wp2_with fail
        refine (firstFed_any N a1 (some ⟨g9, 0, none⟩) a3 l1 c1 l2 d9 l3 c3 ss tz us _ (unhide NZ) (unhide OKR)).mono ?_
        rintro x w7 ⟨rfl, b7⟩
        rw [unhide HWZ]
        have B7 := hide ((unhide BW).trans (b7.mono (unhide BW).size))
        clear b7 k0 k1 k2 k3
        go_wp2_with fail
        go_ret
        exact ⟨rfl, unhide B7⟩

theorem lawFnTied (a : Option Addr) (len cap : Nat) (w : World) (hb : Bytes w a len) (hin : ∀ b off, a = some ⟨b, off, none⟩ → b < w.heap.size) :
    Calls Try.prog 5 #[.slice a len cap] w fun e w' => e = .returned (.bool true) ∧ Below w.heap.size w w' := by
  by_cases h : (1048576 : Int) < len
  · exact lawFnTied_big a len cap w h
  · exact lawFnTied_small a len cap w h hb hin

end Go.Proofs.Ytfahhjgpgccdhac
