/-
  The law FnKept returns true at every list of bytes and writes nothing that was there: the walk. No condition.
-/
import Derived.Test.YtfnnfldfnjnlfahMFlIn
import Derived.Test.YtfnnfldfnjnlfahDrFl
import Derived.Test.YtfnnfldfnjnlfahMHgRun
import Derived.Test.YtfnnfldfnjnlfahMRcDr
import Derived.Test.YtfnnfldfnjnlfahMAtFix
import Derived.Test.YtfnnfldfnjnlfahPkImp
namespace Go.Proofs.Ytfnnfldfnjnlfah
open Go Go.RowKit

set_option maxRecDepth 20000 in
set_option maxHeartbeats 1000000 in
theorem lawFnKept_big (a : Option Addr) (len cap : Nat) (w : World) (h : (1048576 : Int) < len) :
    Calls Try.prog 3 #[.slice a len cap] w fun e w' => e = .returned (.bool true) ∧ Below w.heap.size w w' := by
  have hd : decide ((1048576 : Int) < len) = true := by simpa using h
  go_enter Try.func3, Try.ntmps3
  go_wp2_with fail
  refine (big_any a len cap _).mono ?_
  rintro e w' ⟨rfl, hw⟩
  subst w'
  rw [hd]
  go_wp2
  go_ret
  exact ⟨rfl, Below.refl _ _⟩

set_option maxRecDepth 20000 in
set_option maxHeartbeats 4000000 in
theorem lawFnKept_small (a : Option Addr) (len cap : Nat) (w : World) (h : ¬ (1048576 : Int) < len) (hb : Bytes w a len) (hin : ∀ b off, a = some ⟨b, off, none⟩ → b < w.heap.size) :
    Calls Try.prog 3 #[.slice a len cap] w fun e w' => e = .returned (.bool true) ∧ Below w.heap.size w w' := by
  have hd0 : decide ((1048576 : Int) < len) = false := by simpa using h
  have HBY := hide hb
  have HIN := hide hin
  have DRA := hide (drawRecord_any a len cap w hb hin (by omega))
  clear hb h hin
  go_enter Try.func3, Try.ntmps3
  go_wp2_with fail
  refine (big_any a len cap _).mono ?_
  rintro e w' ⟨rfl, hw⟩
  subst w'
  rw [hd0]
  go_wp2_with fail
  refine (unhide DRA).mono ?_
  rintro e w1 ⟨g, c, us, z, rfl, ⟨o1, r1⟩, b1⟩
  obtain ⟨n, hn⟩ : ∃ n, z.length = n := ⟨_, rfl⟩
  have hrc : rcB z = true := rcD_ok r1
  have hpk : pkB z = true := rcD_fits r1
  have hz39 : n ≤ 39 := by obtain ⟨_, _, q, _⟩ := r1; omega
  have RS : Hid (RowS w1 (some ⟨g, 0, none⟩) n z) := hide (by have hl : us.length = z.length := by rw [← o1.con]; simp [rxZ]
                                                              have := o1.o.read (by omega); rw [o1.con, hn] at this; exact this)
  have B1 := hide b1
  have HPK := hide hpk
  have RD := hide r1
  have HNZ := hide hn
  rw [hn]
  clear o1 r1 b1 hn DRA hrc hpk
  go_wp2_with fail
  go_loopw [4, 5] (fun s i wr => ∃ k : Nat, s = .int .i64 (kpI z k) ∧ i = .int .i64 k ∧ k ≤ n ∧ wr = w1) (fun _ i _ => n - (intOf i).toNat)
  case atStart => exact ⟨0, rfl, rfl, Nat.zero_le _, rfl⟩
  case round =>
    obtain ⟨k, rfl, rfl, hk, hwr⟩ := hrel
    subst hwr
    by_cases hlt : k < n
    · have i0 : (0 : Int) ≤ (k : Int) := by omega
      have i1 : (k : Int) < (n : Int) := by omega
      rcases (unhide RS).open_ with ⟨h0, _⟩ | ⟨bb, off, hbo, _, hcz⟩
      · omega
      simp only [Option.some.injEq, Addr.mk.injEq, and_true] at hbo
      obtain ⟨rfl, rfl⟩ := hbo
      obtain ⟨ai, li, ci, cz, rz, _⟩ := hcz k hlt
      rw [Nat.zero_add] at cz
      have HRZ := hide rz
      have hli : li ≤ 4 := by obtain ⟨N', q1, _, q3⟩ := unhide RD; have q4 := (q3 _ (nthS_in (z := z) (i := k) (by rw [unhide HNZ]; exact hlt))).1; have q5 := rz.len_eq; omega
      have HLI := hide rz.len_eq
      have HST : Hid (kpI z (k + 1) = kpJ (nthS z k) (kpI z k) li) := hide (by rw [← unhide HLI]; rfl)
      obtain ⟨S0, hS0⟩ : ∃ S0, kpI z k = S0 := ⟨_, rfl⟩
      rw [hS0] at HST ⊢
      obtain ⟨r, hr⟩ : ∃ r, nthS z k = r := ⟨_, rfl⟩
      rw [hr] at HST HRZ
      clear hcz rz hS0 hr HLI
      obtain ⟨U, hU⟩ : ∃ U, U = wr := ⟨_, rfl⟩
      rw [← hU] at cz HRZ ⊢
      have HU := hide hU
      clear hU
      go_wp2_with fail
      go_loopw [4, 6] (fun s q wq => ∃ m : Nat, s = .int .i64 (kpJ r S0 m) ∧ q = .int .i64 m ∧ m ≤ li ∧ wq = U) (fun _ q _ => li - (intOf q).toNat)
      case atStart => exact ⟨0, rfl, rfl, Nat.zero_le _, rfl⟩
      case round =>
        obtain ⟨m, rfl, rfl, hm, hwq⟩ := hrel
        subst hwq
        by_cases hml : m < li
        · have m0 : (0 : Int) ≤ (m : Int) := by omega
          have m1 : (m : Int) < (li : Int) := by omega
          rcases (unhide HRZ).open_ with ⟨h0, _⟩ | ⟨bj, oj, rfl, _, hcj⟩
          · omega
          have cj := hcj m hml
          have HSM : Hid (kpJ r S0 (m + 1) = kpS (kpJ r S0 m) (nth r m)) := hide rfl
          obtain ⟨v, hv⟩ : ∃ v, nth r m = v := ⟨_, rfl⟩
          obtain ⟨S, hS⟩ : ∃ S, kpJ r S0 m = S := ⟨_, rfl⟩
          rw [hv] at cj
          rw [hv, hS] at HSM
          rw [hS]
          clear hcj hv hS
          go_wp2_with fail
          go_roundw
          case rel => exact ⟨m + 1, by rw [unhide HSM]; rfl, by go_num, by omega, by first | trivial | rfl⟩
          case measure => simp [intOf]; omega
        · have m1 : ¬ (m : Int) < (li : Int) := by omega
          have hml2 : m = li := by omega
          have HM := hide hml2
          obtain ⟨S, hS⟩ : ∃ S, kpJ r S0 m = S := ⟨_, rfl⟩
          rw [← hml2, hS] at HST
          rw [hS]
          clear hml2 hS
          go_wp2_with fail
          go_roundw
          case rel => exact ⟨k + 1, by rw [unhide HST], by go_num, by omega, by first | trivial | exact unhide HU⟩
          case measure => simp [intOf]; omega
    · have i1 : ¬ (k : Int) < (n : Int) := by omega
      have hkn : k = n := by omega
      rw [hkn]
      have HKN := hide hkn
      clear hkn
      obtain ⟨Z1, hZ1⟩ : ∃ Z1, kpI z n = Z1 := ⟨_, rfl⟩
      rw [hZ1]
      have HZ1 := hide hZ1
      clear hZ1
      go_wp2_with fail
      refine (implPack20_any _ _ _ z _ (unhide RS)).mono ?_
      rintro e w2 ⟨a1', c1', rfl, o2, b2⟩
      rw [unhide HPK]
      have hlb : 2 ≤ (pkL z).length := by rw [pkL_yes (unhide HPK)]; obtain ⟨B, hB⟩ := pkF_head z; rw [hB]; simp
      obtain ⟨mb, hmb⟩ : ∃ mb, (pkL z).length = mb := ⟨_, rfl⟩
      rw [hmb] at hlb ⊢
      have B2 := hide ((unhide B1).trans (b2.mono (unhide B1).size))
      have RS2 := hide ((unhide RS).below b2)
      have lb1 : decide ((1 : Int) < (mb : Int)) = true := by simp; omega
      clear o2 b2 hmb B1 RS hlb
      go_wp2_with fail
      refine (drawFleet_any a len cap w2 ((unhide HBY).below (unhide B2)) (fun b off e => Nat.lt_of_lt_of_le ((unhide HIN) b off e) (unhide B2).size)).mono ?_
      rintro e w3 ⟨a1, a2, a3, e1, e2, e3, f, gl, nl, cl, es, rfl, o3, ol, ⟨hes, hnl⟩, hf, hfe, b3⟩
      have FT := hide (flB_fit hf)
      obtain ⟨hlt1, hlc1, hld1⟩ := flB_len hf
      obtain ⟨nt, hnt⟩ : ∃ nt, f.ts.length = nt := ⟨_, rfl⟩
      obtain ⟨nc, hnc⟩ : ∃ nc, f.cs.length = nc := ⟨_, rfl⟩
      obtain ⟨nd, hnd⟩ : ∃ nd, f.ds.length = nd := ⟨_, rfl⟩
      rw [hnt] at hlt1
      rw [hnc] at hlc1
      rw [hnd] at hld1
      rw [hnt, hnc, hnd] at o3 ⊢
      obtain ⟨V3, hV3⟩ : ∃ V, V = w3.alloc (Obj.cells #[.slice a1 nt e1, .slice a2 nc e2, .slice a3 nd e3, .int .i64 f.nh, .int .i64 f.nc, .int .i64 f.nd] 35) := ⟨_, rfl⟩
      have bV : Below w3.heap.size w3 V3 := by rw [hV3]; exact bel1 _
      obtain ⟨B, hB⟩ : ∃ B, w3.heap.size = B := ⟨_, rfl⟩
      have KF3 : Hid (Blk V3 B [.slice a1 nt e1, .slice a2 nc e2, .slice a3 nd e3, .int .i64 f.nh, .int .i64 f.nc, .int .i64 f.nd]) := hide (by rw [hV3, ← hB]; exact Blk.new _ _)
      have FI := hide (o3.read.below bV)
      have OD3 := hide (unhide FI).r3
      have OL := hide (ol.row.below bV)
      have FE := hide hfe
      have HES := hide hes
      have B3 := hide ((unhide B2).trans ((b3.trans (bV.mono b3.size)).mono (unhide B2).size))
      have RS3 := hide ((unhide RS2).below (b3.trans (bV.mono b3.size)))
      have HV3 := hide hV3
      have c2 : V3.cell? ⟨B, 2, none⟩ = some (.slice a3 nd e3) := (unhide KF3).c 2 (by simp)
      clear hV3 bV o3 ol hes hf hfe b3 hnt hnc hnd RS2 B2
      go_upto_region 14 with fail
      rw [← unhide HV3]
      clear HV3 hB
      go_wp2_with fail
      go_loopw [11, 12] (fun s i wr => ∃ k : Nat, s = .int .i64 (itI f.ds k) ∧ i = .int .i64 k ∧ k ≤ nd ∧ wr = V3) (fun _ i _ => nd - (intOf i).toNat)
      case atStart => exact ⟨0, rfl, rfl, Nat.zero_le _, rfl⟩
      case round =>
        obtain ⟨k, rfl, rfl, hk, hwr⟩ := hrel
        subst hwr
        by_cases hlt : k < nd
        · have i0 : (0 : Int) ≤ (k : Int) := by omega
          have i1 : (k : Int) < (nd : Int) := by omega
          have c2 : wr.cell? ⟨B, 2, none⟩ = some (.slice a3 nd e3) := (unhide KF3).c 2 (by simp)
          obtain ⟨bb, off, rfl, hc⟩ := (unhide OD3).at_ k hlt
          have c3 := hc 1 (by omega)
          have HSM : Hid (itI f.ds (k + 1) = kpS (itI f.ds k) (elAt f.ds k).i) := hide rfl
          have c3' : wr.cell? ⟨bb, off + k * 3 + 1, none⟩ = some (.int .i64 (elAt f.ds k).i) := c3
          obtain ⟨v, hv⟩ : ∃ v, (elAt f.ds k).i = v := ⟨_, rfl⟩
          obtain ⟨S, hS⟩ : ∃ S, itI f.ds k = S := ⟨_, rfl⟩
          rw [hv] at c3'
          rw [hv, hS] at HSM
          rw [hS]
          clear hc hv hS c3
          go_wp2_with fail
          go_roundw
          case rel => exact ⟨k + 1, by rw [unhide HSM]; rfl, by go_num, by omega, by first | trivial | rfl⟩
          case measure => simp [intOf]; omega
        · have i1 : ¬ (k : Int) < (nd : Int) := by omega
          have c2 : wr.cell? ⟨B, 2, none⟩ = some (.slice a3 nd e3) := (unhide KF3).c 2 (by simp)
          have hkn : k = nd := by omega
          rw [hkn]
          clear hkn
          have RW := hide (implRunWork_any f.nh f.nc f.nd a1 a2 a3 nt e1 nc e2 nd e3 f.ts f.cs f.ds (some ⟨gl, 0, none⟩) nl cl es wr (unhide FI) (by omega) (by omega) (by omega) (unhide FT) (unhide OL) (unhide FE))
          go_wp2_with (((with_reducible show wpList _ _ _ (⟨_, .load 35 _, _, _, _, none⟩ :: _) _ _); refine at_loadAgg (vs := [.slice a1 nt e1, .slice a2 nc e2, .slice a3 nd e3, .int .i64 f.nh, .int .i64 f.nc, .int .i64 f.nd]) Try.isAgg35 Try.sizeOf35 rfl (unhide KF3) ?_))
          refine (unhide RW).mono ?_
          rintro e w4 ⟨g1, p1, g2, p2, g3, p3, gt, ct, rfl, _, _, b4⟩
          rw [rwT_len, show rwN es = nl by rw [rwN, if_pos (by rw [unhide HES]; omega), unhide HES]]
          generalize (rwF ⟨f.ts, f.cs, f.ds, f.nh, f.nc, f.nd⟩ es nl) = F2
          obtain ⟨X4, hX4⟩ : ∃ V, V = w4.alloc (Obj.cells #[.slice (some ⟨g1, 0, none⟩) F2.ts.length p1, .slice (some ⟨g2, 0, none⟩) F2.cs.length p2, .slice (some ⟨g3, 0, none⟩) F2.ds.length p3, .int .i64 F2.nh, .int .i64 F2.nc, .int .i64 F2.nd] 35) := ⟨_, rfl⟩
          have b5 : Below wr.heap.size wr X4 := by rw [hX4]; exact b4.alloc b4.size _
          have RS4 := hide ((unhide RS3).below b5)
          have KF4 := hide ((unhide KF3).below b5)
          have OD4 := hide ((unhide OD3).below b5)
          have BW := hide ((unhide B3).trans (b5.mono (unhide B3).size))
          have HX := hide hX4
          clear hX4 b4 b5 RW c2 RS3 KF3 OD3 B3 FI OL FE FT
          go_upto_region 20 with fail
          rw [← unhide HX]
          clear HX
          go_wp2_with fail
          go_loopw [15, 17] (fun s i wr => ∃ k : Nat, s = .int .i64 (kpI z k) ∧ i = .int .i64 k ∧ k ≤ n ∧ wr = X4) (fun _ i _ => n - (intOf i).toNat)
          case atStart => exact ⟨0, rfl, rfl, Nat.zero_le _, rfl⟩
          case round =>
            obtain ⟨k, rfl, rfl, hk, hwr⟩ := hrel
            subst hwr
            by_cases hlt : k < n
            · have i0 : (0 : Int) ≤ (k : Int) := by omega
              have i1 : (k : Int) < (n : Int) := by omega
              rcases (unhide RS4).open_ with ⟨h0, _⟩ | ⟨bb, off, hbo, _, hcz⟩
              · omega
              simp only [Option.some.injEq, Addr.mk.injEq, and_true] at hbo
              obtain ⟨rfl, rfl⟩ := hbo
              obtain ⟨ai, li, ci, cz, rz, _⟩ := hcz k hlt
              rw [Nat.zero_add] at cz
              have HRZ := hide rz
              have hli : li ≤ 4 := by obtain ⟨N', q1, _, q3⟩ := unhide RD; have q4 := (q3 _ (nthS_in (z := z) (i := k) (by rw [unhide HNZ]; exact hlt))).1; have q5 := rz.len_eq; omega
              have HLI := hide rz.len_eq
              have HST : Hid (kpI z (k + 1) = kpJ (nthS z k) (kpI z k) li) := hide (by rw [← unhide HLI]; rfl)
              obtain ⟨S0, hS0⟩ : ∃ S0, kpI z k = S0 := ⟨_, rfl⟩
              rw [hS0] at HST ⊢
              obtain ⟨r, hr⟩ : ∃ r, nthS z k = r := ⟨_, rfl⟩
              rw [hr] at HST HRZ
              clear hcz rz hS0 hr HLI
              obtain ⟨U, hU⟩ : ∃ U, U = wr := ⟨_, rfl⟩
              rw [← hU] at cz HRZ ⊢
              have HU := hide hU
              clear hU
              go_wp2_with fail
              go_loopw [15, 18] (fun s q wq => ∃ m : Nat, s = .int .i64 (kpJ r S0 m) ∧ q = .int .i64 m ∧ m ≤ li ∧ wq = U) (fun _ q _ => li - (intOf q).toNat)
              case atStart => exact ⟨0, rfl, rfl, Nat.zero_le _, rfl⟩
              case round =>
                obtain ⟨m, rfl, rfl, hm, hwq⟩ := hrel
                subst hwq
                by_cases hml : m < li
                · have m0 : (0 : Int) ≤ (m : Int) := by omega
                  have m1 : (m : Int) < (li : Int) := by omega
                  rcases (unhide HRZ).open_ with ⟨h0, _⟩ | ⟨bj, oj, rfl, _, hcj⟩
                  · omega
                  have cj := hcj m hml
                  have HSM : Hid (kpJ r S0 (m + 1) = kpS (kpJ r S0 m) (nth r m)) := hide rfl
                  obtain ⟨v, hv⟩ : ∃ v, nth r m = v := ⟨_, rfl⟩
                  obtain ⟨S, hS⟩ : ∃ S, kpJ r S0 m = S := ⟨_, rfl⟩
                  rw [hv] at cj
                  rw [hv, hS] at HSM
                  rw [hS]
                  clear hcj hv hS
                  go_wp2_with fail
                  go_roundw
                  case rel => exact ⟨m + 1, by rw [unhide HSM]; rfl, by go_num, by omega, by first | trivial | rfl⟩
                  case measure => simp [intOf]; omega
                · have m1 : ¬ (m : Int) < (li : Int) := by omega
                  have hml2 : m = li := by omega
                  have HM := hide hml2
                  obtain ⟨S, hS⟩ : ∃ S, kpJ r S0 m = S := ⟨_, rfl⟩
                  rw [← hml2, hS] at HST
                  rw [hS]
                  clear hml2 hS
                  go_wp2_with fail
                  go_roundw
                  case rel => exact ⟨k + 1, by rw [unhide HST], by go_num, by omega, by first | trivial | exact unhide HU⟩
                  case measure => simp [intOf]; omega
            · have i1 : ¬ (k : Int) < (n : Int) := by omega
              have hkn : k = n := by omega
              rw [hkn]
              have HKN := hide hkn
              clear hkn
              rw [unhide HZ1]
              obtain ⟨X6, hX6⟩ : ∃ X6, X6 = wr := ⟨_, rfl⟩
              rw [← hX6] at KF4 OD4 BW ⊢
              clear hX6 RS4
              have c2 : X6.cell? ⟨B, 2, none⟩ = some (.slice a3 nd e3) := (unhide KF4).c 2 (by simp)
              go_wp2_with fail
              go_loopw [16, 19] (fun s i wr => ∃ k : Nat, s = .int .i64 (itI f.ds k) ∧ i = .int .i64 k ∧ k ≤ nd ∧ wr = X6) (fun _ i _ => nd - (intOf i).toNat)
              case atStart => exact ⟨0, rfl, rfl, Nat.zero_le _, rfl⟩
              case round =>
                obtain ⟨k, rfl, rfl, hk, hwr⟩ := hrel
                subst hwr
                by_cases hlt : k < nd
                · have i0 : (0 : Int) ≤ (k : Int) := by omega
                  have i1 : (k : Int) < (nd : Int) := by omega
                  have c2 : wr.cell? ⟨B, 2, none⟩ = some (.slice a3 nd e3) := (unhide KF4).c 2 (by simp)
                  obtain ⟨bb, off, rfl, hc⟩ := (unhide OD4).at_ k hlt
                  have c3 := hc 1 (by omega)
                  have HSM : Hid (itI f.ds (k + 1) = kpS (itI f.ds k) (elAt f.ds k).i) := hide rfl
                  have c3' : wr.cell? ⟨bb, off + k * 3 + 1, none⟩ = some (.int .i64 (elAt f.ds k).i) := c3
                  obtain ⟨v, hv⟩ : ∃ v, (elAt f.ds k).i = v := ⟨_, rfl⟩
                  obtain ⟨S, hS⟩ : ∃ S, itI f.ds k = S := ⟨_, rfl⟩
                  rw [hv] at c3'
                  rw [hv, hS] at HSM
                  rw [hS]
                  clear hc hv hS c3
                  go_wp2_with fail
                  go_roundw
                  case rel => exact ⟨k + 1, by rw [unhide HSM]; rfl, by go_num, by omega, by first | trivial | rfl⟩
                  case measure => simp [intOf]; omega
                · have i1 : ¬ (k : Int) < (nd : Int) := by omega
                  have c2 : wr.cell? ⟨B, 2, none⟩ = some (.slice a3 nd e3) := (unhide KF4).c 2 (by simp)
                  have hkn : k = nd := by omega
                  rw [hkn]
                  clear hkn
                  clear c2
                  have c2 : wr.cell? ⟨B, 2, none⟩ = some (.slice a3 nd e3) := (unhide KF4).c 2 (by simp)
                  go_wp2_with fail
                  go_ret
                  exact ⟨rfl, unhide BW⟩

theorem lawFnKept (a : Option Addr) (len cap : Nat) (w : World) (hb : Bytes w a len) (hin : ∀ b off, a = some ⟨b, off, none⟩ → b < w.heap.size) :
    Calls Try.prog 3 #[.slice a len cap] w fun e w' => e = .returned (.bool true) ∧ Below w.heap.size w w' := by
  by_cases h : (1048576 : Int) < len
  · exact lawFnKept_big a len cap w h
  · exact lawFnKept_small a len cap w h hb hin

end Go.Proofs.Ytfnnfldfnjnlfah
