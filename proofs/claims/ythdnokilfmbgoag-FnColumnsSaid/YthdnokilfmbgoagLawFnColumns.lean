/-
  The law FnColumns returns true at every list of bytes and writes nothing that was there: the walk. No condition.
-/
import Derived.Test.YthdnokilfmbgoagClFact
import Derived.Test.YthdnokilfmbgoagAtFun
import Derived.Test.YthdnokilfmbgoagClRows
namespace Go.Proofs.Ythdnokilfmbgoag
open Go Go.RowKit

set_option maxRecDepth 20000 in
set_option maxHeartbeats 1000000 in
theorem lawFnColumns_big (a : Option Addr) (len cap : Nat) (w : World) (h : (1048576 : Int) < len) :
    Calls Try.prog 6 #[.slice a len cap] w fun e w' => e = .returned (.bool true) ∧ Below w.heap.size w w' := by
  have hd : decide ((1048576 : Int) < len) = true := by simpa using h
  go_enter Try.func6, Try.ntmps6
  go_wp2_with fail
  refine (big_any a len cap _).mono ?_
  rintro e w' ⟨rfl, hw⟩
  subst w'
  rw [hd]
  go_wp2
  go_ret
  exact ⟨rfl, Below.refl _ _⟩

set_option maxRecDepth 20000 in
set_option maxHeartbeats 4000000 in
theorem lawFnColumns_small (a : Option Addr) (len cap : Nat) (w : World) (h : ¬ (1048576 : Int) < len) (hb : Bytes w a len) (hin : ∀ b off, a = some ⟨b, off, none⟩ → b < w.heap.size) :
    Calls Try.prog 6 #[.slice a len cap] w fun e w' => e = .returned (.bool true) ∧ Below w.heap.size w w' := by
  have hd0 : decide ((1048576 : Int) < len) = false := by simpa using h
  obtain ⟨f, hf, hat⟩ := at_fun a len cap w hb (by omega)
  have HAT := hide hat
  have hf1 := hf 1
  have hf2 := hf 2
  have DRA := hide (drawRecord_any a len cap w hb hin (by omega))
  clear hb h hat hf hin
  go_enter Try.func6, Try.ntmps6
  go_wp2_with fail
  refine (big_any a len cap _).mono ?_
  rintro e w' ⟨rfl, hw⟩
  subst w'
  rw [hd0]
  go_wp2_with fail
  refine (unhide DRA).mono ?_
  rintro e w1 ⟨g, c, us, z, rfl, ⟨o1, r1⟩, b1⟩
  obtain ⟨n, hn⟩ : ∃ n, z.length = n := ⟨_, rfl⟩
  have hz39 : n ≤ 39 := by obtain ⟨_, _, q, _⟩ := r1; omega
  have RS : Hid (RowS w1 (some ⟨g, 0, none⟩) n z) := hide (by have hl : us.length = z.length := by rw [← o1.con]; simp [rxZ]
                                                              have := o1.o.read (by omega); rw [o1.con, hn] at this; exact this)
  have RD := hide r1
  have B1 := hide b1
  rw [hn]
  have HN := hide hn
  clear o1 r1 b1 hn DRA
  by_cases hn0 : n = 0
  · have e0 : ((n : Int) == 0) = true := by rw [hn0]; rfl
    have HC : Hid (coB z 0 = false) := hide (coB_nil (by rw [unhide HN]; exact hn0))
    have HL0 : Hid (coL z 0 = []) := hide (coL_no (unhide HC))
    clear hn0
    go_wp2_with fail
    refine (implColumn_any _ _ _ z 0 _ (unhide RS)).mono ?_
    rintro e w2 ⟨a2, c2, rfl, _, b2⟩
    rw [unhide HC]
    have B2 := hide ((unhide B1).trans (b2.mono (unhide B1).size))
    clear b2
    obtain ⟨k2, hk2⟩ : ∃ k2, k2 = (coL z 0).length := ⟨_, rfl⟩
    rw [← hk2]
    clear hk2
    go_wp2_with fail
    refine (implEvents20_any _ _ _ [[1], [5], [6], [1], [9]] 0 4 _ (rows5 w2)).mono ?_
    rintro e w3 ⟨a3, c3, rfl, o3, b3⟩
    rw [show evL [[1], [5], [6], [1], [9]] 0 4 = [1, 4] by decide] at o3
    rw [show evL [[1], [5], [6], [1], [9]] 0 4 = [1, 4] by decide, show coB [[1], [5], [6], [1], [9]] 0 = true by decide]
    have B3 : Hid (Below w.heap.size w w3) := hide (((((((((unhide B2).alloc (unhide B2).size _).alloc (by simp; have := (unhide B2).size; omega) _).alloc (by simp; have := (unhide B2).size; omega) _).alloc (by simp; have := (unhide B2).size; omega) _).alloc (by simp; have := (unhide B2).size; omega) _).alloc (by simp; have := (unhide B2).size; omega) _)).trans (b3.mono (by simp; have := (unhide B2).size; omega)))
    rcases (OwnI.row o3).open_ with ⟨h0, _⟩ | ⟨b5, o5, rfl, _, hc5⟩
    · simp at h0
    have y0 : w3.cell? ⟨b5, o5, none⟩ = some (.int .i64 1) := by have := hc5 0 (by simp); simpa [nth] using this
    have y1 : w3.cell? ⟨b5, o5 + 1, none⟩ = some (.int .i64 4) := by have := hc5 1 (by simp); simpa [nth] using this
    clear o3 b3 hc5
    go_wp2_with fail
    go_ret
    exact ⟨rfl, unhide B3⟩
  have e0 : ((n : Int) == 0) = false := by rw [beq_eq_false_iff_ne]; omega
  have hz0 : 0 < z.length := by rw [unhide HN]; omega
  have hW := rcD_wd (unhide RD) hz0
  have HRC := hide (rcD_ok (unhide RD))
  obtain ⟨N, hN⟩ : ∃ N, wdN z = N := ⟨_, rfl⟩
  rw [hN] at hW
  have HNW := hide hN
  have HZ0 := hide hz0
  rcases (unhide RS).open_ with ⟨h0, _⟩ | ⟨bb, off, hbo, _, hcz⟩
  · omega
  simp only [Option.some.injEq, Addr.mk.injEq, and_true] at hbo
  obtain ⟨rfl, rfl⟩ := hbo
  obtain ⟨a0, l0, c0, cz0, rz0, _⟩ := hcz 0 (by omega)
  have hl0 : l0 = N := by have q2 := unhide HNW; have q3 := rz0.len_eq; unfold wdN at q2; omega
  rw [hl0] at cz0
  rw [Nat.add_zero] at cz0
  have HCZ := hide hcz
  have HWJ : Hid (∀ j, j < n → (nthS z j).length = N) := hide (fun j hj => by
    obtain ⟨N', _, _, hr⟩ := unhide RD
    have q1 := (hr _ (nthS_in (z := z) (i := j) (by rw [unhide HN]; exact hj))).1
    have q2 := (hr _ (nthS_in (z := z) (i := 0) hz0)).1
    have q3 := unhide HNW
    unfold wdN at q3
    omega)
  clear hN hz0 hl0 rz0 hcz
  obtain ⟨k, hk⟩ : ∃ k : Nat, f 1 % (N : Int) = (k : Int) := ⟨(f 1 % (N : Int)).toNat, by have := Int.emod_nonneg (f 1) (show (N : Int) ≠ 0 by omega); omega⟩
  have hkN : k < N := by have := Int.emod_lt_of_pos (f 1) (show (0 : Int) < (N : Int) by omega); rw [hk] at this; omega
  have HK := hide hk
  clear hk
  obtain ⟨ι, fW, _, hcb, hcl⟩ := belClass w1
  have HB := hide hcb
  have HA := hide hcl
  have z0 : ∀ x, (fW x).cell? ⟨g, 0, none⟩ = some (.slice a0 N c0) := fun x => ((hcb x).cell (block_lt_of_cell cz0)).trans cz0
  have AT1 : Hid (∀ x, Calls Try.prog 25 #[.slice a len cap, .int .i64 1] (fW x) fun e w' => e = .returned (.int .i64 (f 1)) ∧ w' = fW x) := hide (fun x => (unhide HAT) 1 1 rfl (by omega) (fW x) ((unhide B1).trans ((hcb x).mono (unhide B1).size)))
  have AT2 : Hid (∀ x, Calls Try.prog 25 #[.slice a len cap, .int .i64 2] (fW x) fun e w' => e = .returned (.int .i64 (f 2)) ∧ w' = fW x) := hide (fun x => (unhide HAT) 2 2 rfl (by omega) (fW x) ((unhide B1).trans ((hcb x).mono (unhide B1).size)))
  obtain ⟨y0, hy0⟩ := hcl w1 (Below.refl _ _)
  have n0N : ((N : Int) == 0) = false := by rw [beq_eq_false_iff_ne]; omega
  have n1N : ¬ ((N : Int) = 0) := by omega
  have i00 : (0 : Int) < (n : Int) := by omega
  rw [hy0]
  clear hcb hcl hy0
  go_wp2_with fail
  refine wp_region_bel (fun w' h => (unhide HA) w' ((unhide HB _).trans (h.mono (unhide HB _).size))) (by kernel_rfl) (by kernel_rfl) ?_
  repeat (go_big_quiet_step (first | (go_at_call 25; with_reducible exact belS ((unhide AT1) _)) | (go_at_call 25; with_reducible exact belS ((unhide AT2) _))))
  refine wpQuiet_nil ?_
  rintro _ ⟨y, rfl⟩
  obtain ⟨m, hm⟩ : ∃ m, f 2 - 128 = m := ⟨_, rfl⟩
  rw [unhide HK, hm]
  have hm2 : -128 ≤ m ∧ m ≤ 127 := by omega
  have BY := hide (unhide HB y)
  obtain ⟨V, hV⟩ : ∃ V, V = fW y := ⟨_, rfl⟩
  rw [← hV] at BY ⊢
  have RV := hide ((unhide RS).below (unhide BY))
  have BV := hide ((unhide B1).trans ((unhide BY).mono (unhide B1).size))
  clear hV z0 AT1 AT2 HA HB hm
  have HCY : Hid (coB z (k : Int) = true) := hide (coB_in (unhide HRC) (unhide HZ0) (by omega) (by rw [unhide HNW]; omega))
  have HCL : Hid (coL z (k : Int) = coK z (k : Int) n) := hide (by rw [coL_yes (unhide HCY), unhide HN])
  have HEL : Hid (evL z (k : Int) m = evK (coK z (k : Int) n) m n) := hide (by rw [evL, unhide HCL, coK_len])
  have HCN : Hid (coB z (N : Int) = false) := hide (coB_out (by rw [unhide HNW]; omega))
  go_wp2_with fail
  refine (implColumn_any _ _ _ z (k : Int) _ (unhide RV)).mono ?_
  rintro e w2 ⟨a2, c2, rfl, o2, b2⟩
  rw [unhide HCL, coK_len] at o2
  rw [unhide HCY, unhide HCL, coK_len]
  have O2 := hide (OwnI.row o2)
  have RV2 := hide ((unhide RV).below b2)
  have BV2 := hide ((unhide BV).trans (b2.mono (unhide BV).size))
  clear o2 b2
  go_wp2_with fail
  refine (implEvents20_any _ _ _ z (k : Int) m _ (unhide RV2)).mono ?_
  rintro e w3 ⟨a3, c3, rfl, o3, b3⟩
  rw [unhide HEL] at o3
  rw [unhide HCY, unhide HEL]
  obtain ⟨E, hE⟩ : ∃ E, E = evK (coK z (k : Int) n) m n := ⟨_, rfl⟩
  rw [← hE] at o3 ⊢
  have HE := hide hE
  have hEl : E.length ≤ n := by rw [hE]; exact evK_len _ _ _
  have O3 := hide (OwnI.row o3)
  have O2 := hide ((unhide O2).below b3)
  have RV3 := hide ((unhide RV2).below b3)
  have BV3 := hide ((unhide BV2).trans (b3.mono (unhide BV2).size))
  clear hE b3 o3 RV2 BV2
  rcases (unhide RV3).open_ with ⟨h0, _⟩ | ⟨bb, off, hbo, _, hcz⟩
  · omega
  simp only [Option.some.injEq, Addr.mk.injEq, and_true] at hbo
  obtain ⟨rfl, rfl⟩ := hbo
  obtain ⟨a4, l4, c4, cz4, rz4, _⟩ := hcz 0 (by omega)
  have hl4 : l4 = N := by have q2 := unhide HNW; have q3 := rz4.len_eq; unfold wdN at q2; omega
  rw [hl4] at cz4
  rw [Nat.add_zero] at cz4
  clear hl4 rz4 hcz cz0 RV HCZ
  go_wp2_with fail
  refine (implColumn_any _ _ _ z (N : Int) _ (unhide RV3)).mono ?_
  rintro e w4 ⟨a5, c5, rfl, _, b4⟩
  rw [unhide HCN]
  have O2 := hide ((unhide O2).below b4)
  have O3 := hide ((unhide O3).below b4)
  have RV4 := hide ((unhide RV3).below b4)
  have BV4 := hide ((unhide BV3).trans (b4.mono (unhide BV3).size))
  clear b4 cz4
  obtain ⟨k5, hk5⟩ : ∃ k5, k5 = (coL z (N : Int)).length := ⟨_, rfl⟩
  rw [← hk5]
  clear hk5
  obtain ⟨e, he⟩ : ∃ e, E.length = e := ⟨_, rfl⟩
  rw [he] at hEl
  rw [he]
  have HEN := hide he
  rw [he] at O3
  clear he
  go_wp2_with fail
  go_loopw [16] (fun i wr => ∃ j : Nat, j ≤ n ∧ i = .int .i64 j ∧ Below w4.heap.size w4 wr) (fun i _ => n - (intOf i).toNat)
  case atStart => exact ⟨0, Nat.zero_le _, rfl, Below.refl _ _⟩
  case round =>
    obtain ⟨j, hj, rfl, hbel⟩ := hrel
    have BWR := hide hbel
    by_cases hlt : j < n
    · have i0 : (0 : Int) ≤ (j : Int) := by omega
      have i1 : (j : Int) < (n : Int) := by omega
      have k0 : (0 : Int) ≤ (k : Int) := by omega
      have k1 : (k : Int) < (N : Int) := by omega
      obtain ⟨ι, fW, _, hcb, hcl⟩ := belClass wr
      have HB := hide hcb
      have HA := hide hcl
      have R3 : Hid (∀ x, Row (fW x) a3 e E) := hide (fun x => ((unhide O3).below hbel).below (hcb x))
      rcases (unhide O2).open_ with ⟨h0, _⟩ | ⟨bl, ol, rfl, _, hcl2⟩
      · omega
      rcases (unhide RV4).open_ with ⟨h0, _⟩ | ⟨bb, off, hbo, _, hcz⟩
      · omega
      simp only [Option.some.injEq, Addr.mk.injEq, and_true] at hbo
      obtain ⟨rfl, rfl⟩ := hbo
      obtain ⟨aj, lj, cj, czj, rzj, _⟩ := hcz j (by omega)
      have hlj : lj = N := by have q4 := rzj.len_eq; have q5 := (unhide HWJ) j hlt; omega
      rw [hlj] at czj rzj
      rw [Nat.zero_add] at czj
      rcases rzj.open_ with ⟨h0, _⟩ | ⟨bj, oj, rfl, _, hcj⟩
      · omega
      have q1 := hcj k hkN
      have q2 := hcl2 j hlt
      obtain ⟨v, hv⟩ : ∃ v, v = nth (nthS z j) k := ⟨_, rfl⟩
      have e2 : nth (coK z (k : Int) n) j = v := by rw [coK_at _ _ hlt, hv]; simp
      rw [e2] at q2
      rw [← hv] at q1
      have L1 : ∀ x, (fW x).cell? ⟨bl, ol + j, none⟩ = some (.int .i64 v) := fun x => ((hcb x).cell (Nat.lt_of_lt_of_le (block_lt_of_cell q2) hbel.size)).trans ((hbel.cell (block_lt_of_cell q2)).trans q2)
      have L2 : ∀ x, (fW x).cell? ⟨g, j, none⟩ = some (.slice (some ⟨bj, oj, none⟩) N cj) := fun x => ((hcb x).cell (Nat.lt_of_lt_of_le (block_lt_of_cell czj) hbel.size)).trans ((hbel.cell (block_lt_of_cell czj)).trans czj)
      have L3 : ∀ x, (fW x).cell? ⟨bj, oj + k, none⟩ = some (.int .i64 v) := fun x => ((hcb x).cell (Nat.lt_of_lt_of_le (block_lt_of_cell q1) hbel.size)).trans ((hbel.cell (block_lt_of_cell q1)).trans q1)
      have HV := hide e2
      have HMB : Hid (memB E (j : Int) = evI (coK z (k : Int) n) m j) := hide (by rw [unhide HE]; exact evK_mem _ _ hlt)
      have vv : (v == v) = true := by simp
      have HC2 := hide hcl2
      obtain ⟨x0, hx0⟩ := hcl wr (Below.refl _ _)
      rw [hx0]
      have HX0 := hide hx0
      clear hx0 hcz czj rzj hlj hcj q1 q2 hv e2 hcl2 hcb hcl
      by_cases hmv : m < v
      · have d1 : decide (m < v) = true := by simpa using hmv
        by_cases hj0 : j = 0
        · have HM : Hid (memB E (j : Int) = true) := hide (by rw [unhide HMB, evI, unhide HV]; simp [hmv, hj0])
          have j0 : ((j : Int) == 0) = true := by rw [hj0]; rfl
          clear hj0 hbel
          have WI : Hid (∀ x, Calls Try.prog 28 #[.slice a3 e c3, .int .i64 (j : Int)] (fW x) fun e w' => e = .returned (.bool true) ∧ ∃ y, w' = fW y) := hide (fun x => belQ (unhide HB) (unhide HA) (by rw [← show memB E (j : Int) = true from unhide HM]; exact lwWithin_any _ _ _ E _ _ (unhide R3 x)))
          go_wp2_with fail
          refine wp_region_bel (fun w' h => (unhide HA) w' ((unhide HB _).trans (h.mono (unhide HB _).size))) (by kernel_rfl) (by kernel_rfl) ?_
          repeat (go_big_quiet_step (first | (go_at_call 28; with_reducible exact (unhide WI) _)))
          refine wpQuiet_nil ?_
          rintro _ ⟨y, rfl⟩
          go_wp2_with fail
          go_roundw
          case rel => exact ⟨j + 1, by omega, by go_num, (unhide BWR).trans ((unhide HB y).mono (unhide BWR).size)⟩
          case measure => simp [intOf]; omega
        · obtain ⟨p, hp⟩ : ∃ p, j = p + 1 := ⟨j - 1, by omega⟩
          have j0 : ((j : Int) == 0) = false := by rw [beq_eq_false_iff_ne]; omega
          have hsub : (j : Int) - 1 = (p : Int) := by omega
          have hwr : IntKind.i64.wrap (p : Int) = p := by simp only [IntKind.wrap_i64]; omega
          have p0 : (0 : Int) ≤ (p : Int) := by omega
          have p1 : (p : Int) < (n : Int) := by omega
          have q3 := (unhide HC2) p (by omega)
          obtain ⟨u, hu⟩ : ∃ u, u = nth (coK z (k : Int) n) p := ⟨_, rfl⟩
          rw [← hu] at q3
          have HU := hide hu
          have L4 : (fW x0).cell? ⟨bl, ol + p, none⟩ = some (.int .i64 u) := by rw [← unhide HX0]; exact (hbel.cell (block_lt_of_cell q3)).trans q3
          have HPJ : Hid (j - 1 = p) := hide (by omega)
          have HJ0 := hide hj0
          clear q3 hu hj0 hp hbel
          by_cases hum : u ≤ m
          · have d2 : decide (u ≤ m) = true := by simpa using hum
            have HM : Hid (memB E (j : Int) = true) := hide (by rw [unhide HMB, evI, unhide HV, unhide HPJ, ← unhide HU, d1, d2]; simp)
            have WI : Hid (∀ x, Calls Try.prog 28 #[.slice a3 e c3, .int .i64 (j : Int)] (fW x) fun e w' => e = .returned (.bool true) ∧ ∃ y, w' = fW y) := hide (fun x => belQ (unhide HB) (unhide HA) (by rw [← show memB E (j : Int) = true from unhide HM]; exact lwWithin_any _ _ _ E _ _ (unhide R3 x)))
            go_wp2_with fail
            refine wp_region_bel (fun w' h => (unhide HA) w' ((unhide HB _).trans (h.mono (unhide HB _).size))) (by kernel_rfl) (by kernel_rfl) ?_
            repeat (go_big_quiet_step (first | (go_at_call 28; with_reducible exact (unhide WI) _)))
            refine wpQuiet_nil ?_
            rintro _ ⟨y, rfl⟩
            go_wp2_with fail
            go_roundw
            case rel => exact ⟨j + 1, by omega, by go_num, (unhide BWR).trans ((unhide HB y).mono (unhide BWR).size)⟩
            case measure => simp [intOf]; omega
          · have d2 : decide (u ≤ m) = false := by simpa using hum
            have HM : Hid (memB E (j : Int) = false) := hide (by rw [unhide HMB, evI, unhide HV, unhide HPJ, ← unhide HU, d2]; simp [unhide HJ0])
            have WI : Hid (∀ x, Calls Try.prog 28 #[.slice a3 e c3, .int .i64 (j : Int)] (fW x) fun e w' => e = .returned (.bool false) ∧ ∃ y, w' = fW y) := hide (fun x => belQ (unhide HB) (unhide HA) (by rw [← show memB E (j : Int) = false from unhide HM]; exact lwWithin_any _ _ _ E _ _ (unhide R3 x)))
            go_wp2_with fail
            refine wp_region_bel (fun w' h => (unhide HA) w' ((unhide HB _).trans (h.mono (unhide HB _).size))) (by kernel_rfl) (by kernel_rfl) ?_
            repeat (go_big_quiet_step (first | (go_at_call 28; with_reducible exact (unhide WI) _)))
            refine wpQuiet_nil ?_
            rintro _ ⟨y, rfl⟩
            go_wp2_with fail
            go_roundw
            case rel => exact ⟨j + 1, by omega, by go_num, (unhide BWR).trans ((unhide HB y).mono (unhide BWR).size)⟩
            case measure => simp [intOf]; omega
      · have d1 : decide (m < v) = false := by simpa using hmv
        have HM : Hid (memB E (j : Int) = false) := hide (by rw [unhide HMB, evI, unhide HV, d1]; simp)
        clear hbel
        have WI : Hid (∀ x, Calls Try.prog 28 #[.slice a3 e c3, .int .i64 (j : Int)] (fW x) fun e w' => e = .returned (.bool false) ∧ ∃ y, w' = fW y) := hide (fun x => belQ (unhide HB) (unhide HA) (by rw [← show memB E (j : Int) = false from unhide HM]; exact lwWithin_any _ _ _ E _ _ (unhide R3 x)))
        go_wp2_with fail
        refine wp_region_bel (fun w' h => (unhide HA) w' ((unhide HB _).trans (h.mono (unhide HB _).size))) (by kernel_rfl) (by kernel_rfl) ?_
        repeat (go_big_quiet_step (first | (go_at_call 28; with_reducible exact (unhide WI) _)))
        refine wpQuiet_nil ?_
        rintro _ ⟨y, rfl⟩
        go_wp2_with fail
        go_roundw
        case rel => exact ⟨j + 1, by omega, by go_num, (unhide BWR).trans ((unhide HB y).mono (unhide BWR).size)⟩
        case measure => simp [intOf]; omega
    · have i1 : ¬ (j : Int) < (n : Int) := by omega
      have O5 := hide ((unhide O3).below hbel)
      have BV5 := hide ((unhide BV4).trans (hbel.mono (unhide BV4).size))
      have RISE : Hid (∀ i j : Nat, i < j → j < e → nth E i < nth E j) := hide (fun i j h1 h2 => by
        have h3 := unhide HEN
        have h4 := unhide HE
        rw [h4] at h3 ⊢
        exact evK_rise _ _ _ h1 (by rw [h3]; exact h2))
      clear hbel BWR
      obtain ⟨X, hX⟩ : ∃ X, X = wr := ⟨_, rfl⟩
      rw [← hX] at O5 BV5 ⊢
      clear hX
      go_wp2_with fail
      go_loopw [18] (fun i we => ∃ j : Nat, 1 ≤ j ∧ (j ≤ e ∨ j ≤ 1) ∧ i = .int .i64 j ∧ Below X.heap.size X we) (fun i _ => e - (intOf i).toNat)
      case atStart => exact ⟨1, by omega, by omega, rfl, Below.refl _ _⟩
      case round =>
        obtain ⟨j, hj1, hje, rfl, hbel⟩ := hrel
        have BWR := hide hbel
        by_cases hlt : j < e
        · obtain ⟨p, hp⟩ : ∃ p, j = p + 1 := ⟨j - 1, by omega⟩
          have hsub : (j : Int) - 1 = (p : Int) := by omega
          have hwr : IntKind.i64.wrap (p : Int) = p := by simp only [IntKind.wrap_i64]; omega
          have p0 : (0 : Int) ≤ (p : Int) := by omega
          have p1 : (p : Int) < (e : Int) := by omega
          have i0 : (0 : Int) ≤ (j : Int) := by omega
          have i1 : (j : Int) < (e : Int) := by omega
          have hr := (unhide RISE) p j (by omega) hlt
          rcases (unhide O5).open_ with ⟨h0, _⟩ | ⟨be, oe, rfl, _, hce⟩
          · omega
          have q1 := hce j hlt
          have q2 := hce p (by omega)
          obtain ⟨v, hv⟩ : ∃ v, v = nth E j := ⟨_, rfl⟩
          obtain ⟨u, hu⟩ : ∃ u, u = nth E p := ⟨_, rfl⟩
          rw [← hv] at q1 hr
          rw [← hu] at q2 hr
          have d1 : decide (v ≤ u) = false := by simp; omega
          obtain ⟨ι, fW, _, hcb, hcl⟩ := belClass wr
          have HB := hide hcb
          have HA := hide hcl
          have L1 : ∀ x, (fW x).cell? ⟨be, oe + j, none⟩ = some (.int .i64 v) := fun x => ((hcb x).cell (Nat.lt_of_lt_of_le (block_lt_of_cell q1) hbel.size)).trans ((hbel.cell (block_lt_of_cell q1)).trans q1)
          have L2 : ∀ x, (fW x).cell? ⟨be, oe + p, none⟩ = some (.int .i64 u) := fun x => ((hcb x).cell (Nat.lt_of_lt_of_le (block_lt_of_cell q2) hbel.size)).trans ((hbel.cell (block_lt_of_cell q2)).trans q2)
          obtain ⟨x0, hx0⟩ := hcl wr (Below.refl _ _)
          rw [hx0]
          clear hx0 hp q1 q2 hv hu hce hcb hcl hbel hr
          go_wp2_with fail
          refine wp_region_bel (fun w' h => (unhide HA) w' ((unhide HB _).trans (h.mono (unhide HB _).size))) (by kernel_rfl) (by kernel_rfl) ?_
          repeat (go_big_quiet_step (fail))
          refine wpQuiet_nil ?_
          rintro _ ⟨y, rfl⟩
          go_wp2_with fail
          go_roundw
          case rel => exact ⟨j + 1, by omega, by omega, by go_num, (unhide BWR).trans ((unhide HB y).mono (unhide BWR).size)⟩
          case measure => simp [intOf]; omega
        · have i1 : ¬ (j : Int) < (e : Int) := by omega
          clear hbel
          go_wp2_with fail
          go_ret
          exact ⟨rfl, (unhide BV5).trans ((unhide BWR).mono (unhide BV5).size)⟩

theorem lawFnColumns (a : Option Addr) (len cap : Nat) (w : World) (hb : Bytes w a len) (hin : ∀ b off, a = some ⟨b, off, none⟩ → b < w.heap.size) :
    Calls Try.prog 6 #[.slice a len cap] w fun e w' => e = .returned (.bool true) ∧ Below w.heap.size w w' := by
  by_cases h : (1048576 : Int) < len
  · exact lawFnColumns_big a len cap w h
  · exact lawFnColumns_small a len cap w h hb hin

end Go.Proofs.Ythdnokilfmbgoag
