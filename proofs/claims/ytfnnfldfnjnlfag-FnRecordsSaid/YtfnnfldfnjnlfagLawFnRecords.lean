/-
  The law FnRecords returns true at every list of bytes and writes nothing that was there: the walk. No condition.
-/
import Derived.Test.YtfnnfldfnjnlfagClFact
import Derived.Test.YtfnnfldfnjnlfagAtFun
import Derived.Test.YtfnnfldfnjnlfagRdUn
import Derived.Test.YtfnnfldfnjnlfagUnIm
import Derived.Test.YtfnnfldfnjnlfagSa1
import Derived.Test.YtfnnfldfnjnlfagPkImp
import Derived.Test.YtfnnfldfnjnlfagConvS
import Derived.Test.YtfnnfldfnjnlfagRecF
import Derived.Test.YtfnnfldfnjnlfagAppLx
import Derived.Test.YtfnnfldfnjnlfagThen
import Derived.Deep.Cut
namespace Go.Proofs.Ytfnnfldfnjnlfag
open Go Go.RowKit

set_option maxRecDepth 20000 in
set_option maxHeartbeats 1000000 in
theorem lawFnRecords_big (a : Option Addr) (len cap : Nat) (w : World) (h : (1048576 : Int) < len) :
    Calls Try.prog 5 #[.slice a len cap] w fun e w' => e = .returned (.bool true) ∧ Below w.heap.size w w' := by
  have hd : decide ((1048576 : Int) < len) = true := by simpa using h
  go_enter Try.func5, Try.ntmps5
  go_wp2_with fail
  refine (big_any a len cap _).mono ?_
  rintro e w' ⟨rfl, hw⟩
  subst w'
  rw [hd]
  go_wp2
  go_ret
  exact ⟨rfl, Below.refl _ _⟩

set_option maxRecDepth 20000 in
set_option maxHeartbeats 8000000 in
theorem lawFnRecords_small (a : Option Addr) (len cap : Nat) (w : World) (h : ¬ (1048576 : Int) < len) (hb : Bytes w a len) (hin : ∀ b off, a = some ⟨b, off, none⟩ → b < w.heap.size) :
    Calls Try.prog 5 #[.slice a len cap] w fun e w' => e = .returned (.bool true) ∧ Below w.heap.size w w' := by
  have hd0 : decide ((1048576 : Int) < len) = false := by simpa using h
  obtain ⟨f, hf, hat⟩ := at_fun a len cap w hb (by omega)
  have HAT := hide hat
  have hf1 := hf 1
  have hf2 := hf 2
  have hf3 := hf 3
  have HBY := hide hb
  have HIN := hide hin
  have hlen : len ≤ 1048576 := by omega
  have DRA := hide (drawRecord_any a len cap w hb hin (by omega))
  clear hb h hin hat hf
  go_enter Try.func5, Try.ntmps5
  go_wp2_with fail
  refine (big_any a len cap _).mono ?_
  rintro e w' ⟨rfl, hw⟩
  subst w'
  rw [hd0]
  go_wp2_with fail
  refine (unhide DRA).mono ?_
  rintro e w1 ⟨g, c, us, z, rfl, ⟨o1, r1⟩, b1⟩
  obtain ⟨n, hn⟩ : ∃ n, z.length = n := ⟨_, rfl⟩
  have hrc : rcB z = true := rcD_ok r1
  have hpk : pkB z = true := rcD_fits r1
  have hz39 : n ≤ 39 := by obtain ⟨_, _, q, _⟩ := r1; omega
  have RS : Hid (RowS w1 (some ⟨g, 0, none⟩) n z) := hide (by have hl : us.length = z.length := by rw [← o1.con]; simp [rxZ]
                                                              have := o1.o.read (by omega); rw [o1.con, hn] at this; exact this)
  have RD := hide r1
  have B1 := hide b1
  have RC := hide hrc
  have RT := hide (rt_all hrc)
  have SS := hide (same_self hrc)
  rw [hn]
  have HN := hide hn
  clear o1 r1 b1 hn DRA
  go_wp2_with fail
  refine (implPack20_any _ _ _ z _ (unhide RS)).mono ?_
  rintro e w2 ⟨a1, c1, rfl, o2, b2⟩
  rw [pkL_yes hpk] at o2 ⊢
  rw [hpk]
  have hp2 : 2 ≤ (pkF z).length := by obtain ⟨B, hB⟩ := pkF_head z; rw [hB]; simp
  have hp15 : (pkF z).length ≤ 1500 := by rw [← pkL_yes hpk]; exact pkL_len z
  have PB : Hid (ByB (pkF z)) := hide (by rw [← pkL_yes hpk]; exact pkL_by z)
  obtain ⟨bs0, hbs0⟩ : ∃ bs, pkF z = bs := ⟨_, rfl⟩
  rw [hbs0] at o2 hp2 hp15 PB RT ⊢
  obtain ⟨m0, hm0⟩ : ∃ m, bs0.length = m := ⟨_, rfl⟩
  rw [hm0] at o2 hp2 hp15 ⊢
  rcases o2.form with ⟨e, e0⟩ | ⟨g1, c1', e, _, hg1, hc1, _⟩
  · simp only [Value.slice.injEq] at e; omega
  simp only [Value.slice.injEq] at e
  obtain ⟨rfl, _, rfl⟩ := e
  have RB : Hid (RowE 1 byC w2 (some ⟨g1, 0, none⟩) m0 bs0) := hide o2.row
  have B2 := hide ((unhide B1).trans (b2.mono (unhide B1).size))
  have RS2 := hide ((unhide RS).below b2)
  rw [hm0] at hc1
  have HM0 := hide hm0
  clear o2 b2 B1 RS hpk hrc hbs0 hm0
  go_wp2_with fail
  refine (implRecordOk_any _ _ _ z _ (unhide RS2)).mono ?_
  rintro e w3 ⟨rfl, b3⟩
  rw [unhide RC]
  have RS3 := hide ((unhide RS2).below b3)
  have RB3 := hide ((unhide RB).below b3)
  have B3 := hide ((unhide B2).trans (b3.mono (unhide B2).size))
  have hg3 : g1 < w3.heap.size := Nat.lt_of_lt_of_le hg1 b3.size
  clear b3 RS2 RB B2 hg1
  go_wp2_with fail
  rw [unhide HM0]
  refine (implUnpack20_some g1 0 m0 _ bs0 _ (unhide RB3) (fun i hi => (unhide PB) i (by rw [unhide HM0]; exact hi)) (by omega) hc1 hg3).mono ?_
  rintro e w4 ⟨g4, c4, us4, rfl, o4, b4⟩
  rw [(unhide RT).1, (unhide RT).2.1]
  rw [(unhide RT).2.2] at o4 ⊢
  rw [unhide HN] at o4 ⊢
  have O4 := hide o4
  have BB4 := hide b4
  have RS4 := hide ((unhide RS3).below b4)
  have hul4 : us4.length = n := by rw [← unhide HN, ← o4.con]; simp [rxZ]
  clear b4 o4 RB3
  go_wp2_with fail
  refine (implSame20_any _ _ _ z _ _ _ z _ (unhide RS4) (by have := (unhide O4).o.read (by omega); rw [(unhide O4).con] at this; exact this)).mono ?_
  rintro e w5 ⟨rfl, b5⟩
  rw [(unhide SS).1, (unhide SS).2.1, (unhide SS).2.2]
  have O5 := hide ((unhide O4).below b5)
  have BB5 := hide ((unhide BB4).trans (b5.mono (unhide BB4).size))
  have B5 := hide ((unhide B3).trans ((unhide BB5).mono (unhide B3).size))
  clear b5 O4 RS4 BB4
  go_wp2_with fail
  refine (drawUnpack20_any a len cap w5 ((unhide HBY).below (unhide B5)) (fun b off e => Nat.lt_of_lt_of_le ((unhide HIN) b off e) (unhide B5).size) hlen).mono ?_
  rintro e w6 ⟨g6, m, c6, bs, rfl, o6, hm, hm15, by6, b6⟩
  have O6 := hide ((unhide O5).below b6)
  have BB6 := hide ((unhide BB5).trans (b6.mono (unhide BB5).size))
  have RX : Hid (RowE 1 byC w6 (some ⟨g6, 0, none⟩) m bs) := hide o6.row
  have hmc : m ≤ c6 := by
    rcases o6.form with ⟨e, _⟩ | ⟨g', cp, e, _, _, hc, _⟩
    · cases e
    · simp only [Value.slice.injEq] at e; omega
  have hg6 : g6 < w6.heap.size := (o6.lies g6 rfl).2
  have BY6 := hide by6
  have HM := hide hm
  clear o6 b6 by6 hm O5 BB5
  go_wp2_with fail
  refine (implUnpack20_some g6 0 m c6 bs _ (unhide RX) (fun i hi => (unhide BY6) i (by rw [unhide HM]; exact hi)) (by omega) hmc hg6).mono ?_
  rintro e w7 ⟨g7, c7, us7, rfl, o7, b7⟩
  have BB7 := hide ((unhide BB6).trans (b7.mono (unhide BB6).size))
  have O7 := hide ((unhide O6).below b7)
  have RX7 := hide ((unhide RX).below b7)
  by_cases hU : unCo bs = 0
  · obtain ⟨rcb, pkf⟩ := back_all (unhide BY6) hU
    have hm0 : m ≤ 1500 := by rcases hm15.2 with k | k; exact k; exact absurd hU k
    have pkb : pkB (unLs bs) = true := by rw [pkB, rcb, pkf, unhide HM]; simpa using hm0
    rw [hU]
    obtain ⟨nl, hnl⟩ : ∃ nl, (unLs bs).length = nl := ⟨_, rfl⟩
    have RL : Hid (RowS w7 (some ⟨g7, 0, none⟩) nl (unLs bs)) := hide (by have hl7 : us7.length = nl := (by rw [← hnl, ← o7.con]; simp [rxZ]); have hfl := (unLs_fit (unhide BY6)).1; have h9 := o7.o.read (by rw [hl7]; omega); rw [o7.con, hnl] at h9; exact h9)
    rw [hnl]
    have HPK := hide pkf
    have HPB := hide pkb
    clear o7 b7 hU rcb pkf pkb hnl hm0 hm15 O6 RX BB6
    go_wp2_with fail
    refine (implPack20_any _ _ _ (unLs bs) _ (unhide RL)).mono ?_
    rintro e w8 ⟨a8, c8, rfl, o8, b8⟩
    rw [pkL_yes (unhide HPB), unhide HPK, unhide HM] at o8 ⊢
    rw [unhide HPB]
    have BB8 := hide ((unhide BB7).trans (b8.mono (unhide BB7).size))
    have O8 := hide ((unhide O7).below b8)
    have cs1 := conv_str o8.row c8
    have cs2 := conv_str ((unhide RX7).below b8) c6
    clear o8 b8 BB7 O7 RX7
    obtain ⟨V, hV⟩ : ∃ V, V = w8 := ⟨_, rfl⟩
    rw [← hV] at BB8 O8 cs1 cs2 ⊢
    clear hV
    go_upto_region 19 with fail
    clear cs1 cs2
    by_cases hn0 : n = 0
    · have e0 : ((n : Int) == 0) = true := by rw [hn0]; rfl
      clear hn0
      go_wp2_with fail
      go_ret
      exact ⟨rfl, (unhide B3).trans ((unhide BB8).mono (unhide B3).size)⟩
    have e0 : ((n : Int) == 0) = false := by rw [beq_eq_false_iff_ne]; omega
    have hz0 : 0 < z.length := by rw [unhide HN]; omega
    have hW := rcD_wd (unhide RD) hz0
    obtain ⟨N, hN⟩ : ∃ N, wdN z = N := ⟨_, rfl⟩
    rw [hN] at hW
    have HNW := hide hN
    have HZ0 := hide hz0
    have RS8 := hide ((unhide RS3).below (unhide BB8))
    rcases (unhide RS8).open_ with ⟨h0, _⟩ | ⟨bb, off, hbo, _, hcz⟩
    · omega
    simp only [Option.some.injEq, Addr.mk.injEq, and_true] at hbo
    obtain ⟨rfl, rfl⟩ := hbo
    obtain ⟨a0, l0, c0, cz0, rz0, _⟩ := hcz 0 (by omega)
    have hl0 : l0 = N := by have q2 := unhide HNW; have q3 := rz0.len_eq; unfold wdN at q2; omega
    rw [hl0] at cz0
    rw [Nat.add_zero] at cz0
    have HWJ : Hid (∀ j, j < n → (nthS z j).length = N) := hide (fun j hj => by
      obtain ⟨N', _, _, hr⟩ := unhide RD
      have q1 := (hr _ (nthS_in (z := z) (i := j) (by rw [unhide HN]; exact hj))).1
      have q2 := (hr _ (nthS_in (z := z) (i := 0) hz0)).1
      have q3 := unhide HNW
      unfold wdN at q3
      omega)
    clear hN hz0 hl0 rz0 hcz
    obtain ⟨i, hi⟩ : ∃ i : Nat, f 1 % (n : Int) = (i : Int) := ⟨(f 1 % (n : Int)).toNat, by have := Int.emod_nonneg (f 1) (show (n : Int) ≠ 0 by omega); omega⟩
    have hin' : i < n := by have := Int.emod_lt_of_pos (f 1) (show (0 : Int) < (n : Int) by omega); rw [hi] at this; omega
    obtain ⟨q, hq⟩ : ∃ q : Nat, f 2 % (N : Int) = (q : Int) := ⟨(f 2 % (N : Int)).toNat, by have := Int.emod_nonneg (f 2) (show (N : Int) ≠ 0 by omega); omega⟩
    have hqN : q < N := by have := Int.emod_lt_of_pos (f 2) (show (0 : Int) < (N : Int) by omega); rw [hq] at this; omega
    have HI := hide hi
    have HQ := hide hq
    clear hi hq
    obtain ⟨ι, fW, _, hcb, hcl⟩ := belClass V
    have HB := hide hcb
    have HA := hide hcl
    have z0 : ∀ x, (fW x).cell? ⟨g, 0, none⟩ = some (.slice a0 N c0) := fun x => ((hcb x).cell (block_lt_of_cell cz0)).trans cz0
    have BW8 := hide ((unhide B3).trans ((unhide BB8).mono (unhide B3).size))
    have AT1 : Hid (∀ x, Calls Try.prog 25 #[.slice a len cap, .int .i64 1] (fW x) fun e w' => e = .returned (.int .i64 (f 1)) ∧ w' = fW x) := hide (fun x => (unhide HAT) 1 1 rfl (by omega) (fW x) ((unhide BW8).trans ((hcb x).mono (unhide BW8).size)))
    have AT2 : Hid (∀ x, Calls Try.prog 25 #[.slice a len cap, .int .i64 2] (fW x) fun e w' => e = .returned (.int .i64 (f 2)) ∧ w' = fW x) := hide (fun x => (unhide HAT) 2 2 rfl (by omega) (fW x) ((unhide BW8).trans ((hcb x).mono (unhide BW8).size)))
    obtain ⟨y0, hy0⟩ := hcl V (Below.refl _ _)
    have n0n : ((n : Int) == 0) = false := e0
    have n0N : ((N : Int) == 0) = false := by rw [beq_eq_false_iff_ne]; omega
    have n1n : ¬ ((n : Int) = 0) := by omega
    have n1N : ¬ ((N : Int) = 0) := by omega
    have i00 : (0 : Int) < (n : Int) := by omega
    rw [hy0]
    clear hcb hcl hy0 hn0
    go_wp2_with fail
    refine wp_region_bel (fun w' h => (unhide HA) w' ((unhide HB _).trans (h.mono (unhide HB _).size))) (by kernel_rfl) (by kernel_rfl) ?_
    (repeat (go_big_quiet_step (first | (go_at_call 25; with_reducible exact belS ((unhide AT1) _)) | (go_at_call 25; with_reducible exact belS ((unhide AT2) _)))))
    refine wpQuiet_nil ?_
    rintro _ ⟨y, rfl⟩
    rw [unhide HI, unhide HQ]
    have BY := hide (unhide HB y)
    obtain ⟨V1, hV1⟩ : ∃ V, V = fW y := ⟨_, rfl⟩
    rw [← hV1] at BY ⊢
    have O9 := hide ((unhide O8).below (unhide BY))
    have BB9 := hide ((unhide BB8).trans ((unhide BY).mono (unhide BB8).size))
    clear hV1 z0 AT1 AT2 HA HB BY O8 BB8 RS8 cz0 BW8
    -- the row that is copied
    have hul : us4.length = n := hul4
    have hzs : (elAt us4 i).zs = nthS z i := by have := rxZ_at (us := us4) (i := i) (by omega); rw [(unhide O9).con] at this; exact this.symm
    have hRl : (nthS z i).length = N := (unhide HWJ) i hin'
    obtain ⟨R, hR⟩ : ∃ R, nthS z i = R := ⟨_, rfl⟩
    rw [hR] at hzs hRl
    obtain ⟨gb, cb, hel, hgb1, hgb2, ogb⟩ := (unhide O9).o.row_at (i := i) (by omega) (by rw [hzs]; intro e; rw [e] at hRl; simp at hRl; omega)
    rw [hzs, hRl] at hel ogb
    have hg4 := (unhide O9).o.lies.1 g4 rfl
    have LI := hide (unhide O9).o.lies.2
    have hsz1 := (unhide BB9).size
    have c4c : V1.cell? ⟨g4, i, none⟩ = some (.slice (some ⟨gb, 0, none⟩) N cb) := by have := ((unhide O9).o.out.here hul i hin' 0 (by omega)).1; rw [hel] at this; simpa [rxC, rxV] using this
    have HROW : Hid (∀ j, j < N → V1.cell? ((⟨gb, 0, none⟩ : Addr).add j) = some (.int .i64 (nth R j))) := hide (fun j hj => by
      rcases (OwnI.row ogb).open_ with ⟨h0, _⟩ | ⟨b9, o9, e, _, hc⟩
      · omega
      simp only [Option.some.injEq, Addr.mk.injEq, and_true] at e
      obtain ⟨rfl, rfl⟩ := e
      rw [addr_addR]; exact hc j hj)
    have HFIT := hide ogb.fit
    have HRL := hide hRl
    have HR := hide hR
    have HEL := hide hel
    have HUL := hide hul
    have hb2 : Below V1.heap.size V1 (V1.alloc (Obj.cells #[] 3)) := bel1 _
    have c4c2 : (V1.alloc (Obj.cells #[] 3)).cell? ⟨g4, i, none⟩ = some (.slice (some ⟨gb, 0, none⟩) N cb) := (hb2.cell (block_lt_of_cell c4c)).trans c4c
    have HROW2 : Hid (∀ j, j < N → (V1.alloc (Obj.cells #[] 3)).cell? ((⟨gb, 0, none⟩ : Addr).add j) = some (.int .i64 (nth R j))) := hide (fun j hj => (hb2.cell (by rw [addr_addR]; exact hgb2)).trans ((unhide HROW) j hj))
    have G2 : Hid (OwnI (V1.alloc (Obj.cells #[] 3)) V1.heap.size (.slice (some ⟨V1.heap.size, 0, none⟩) 0 0) []) := hide (ownI_lit (w := V1) (base := V1.heap.size) (k := 0) (zs := []) (Nat.le_refl _) (by simp) (by simp) (by simp))
    have O10 := hide ((unhide O9).below hb2)
    have BB10 := hide ((unhide BB9).trans (hb2.mono hsz1))
    have HRN : Hid (R ≠ []) := hide (by intro e; rw [e] at hRl; simp at hRl; omega)
    have LIE := hide (unhide O9).o.lies
    have CONZ := hide (unhide O9).con
    have hvb : -30000 ≤ nth R q ∧ nth R q ≤ 30000 := by
      obtain ⟨N', _, _, hr⟩ := unhide RD
      have k1 := (hr _ (nthS_in (z := z) (i := i) (by rw [unhide HN]; exact hin'))).2
      rw [hR] at k1
      exact k1 _ (nth_in (by omega))
    have i0 : (0 : Int) ≤ (i : Int) := by omega
    have i1 : (i : Int) < (n : Int) := by omega
    have q0 : (0 : Int) ≤ (q : Int) := by omega
    have q1 : (q : Int) < (N : Int) := by omega
    have HIN' := hide hin'
    have HQN := hide hqN
    have HG4 := hide hg4
    have HSZ1 := hide hsz1
    clear hb2 hzs hRl hR hel hul ogb HROW c4c hg4 hsz1 hgb1 hgb2
    go_wp2_with (at_builtin; refine wpList_app_ints rfl _ _ rfl (unhide G2) rfl ⟨gb, 0, none⟩ N cb R rfl (unhide HRL) (unhide HROW2) (unhide HFIT) (by have h9 := unhide HRL; have h8 := unhide RD; obtain ⟨N', k1, _, _⟩ := h8; simp; omega) (by simp) ?_; intro v9 w9 o9 gr9 n9; rw [List.nil_append] at o9; rcases o9.form with ⟨e9, x9⟩ | ⟨g9, c9, e9, h9, _, _, _⟩; (exact absurd x9 (unhide HRN)); rw [unhide HRL] at e9; subst e9; have O11 : Hid (OwnRr w9 w3.heap.size (.slice (some ⟨g4, 0, none⟩) n c4) us4) := hide ((unhide O10).o.far gr9 (fun p hp e => by have e1 : p = V1.heap.size := Option.some.inj e; have e2 := ((unhide LIE).1 p hp).2; omega) (fun j hj p hp e => by have e1 : p = V1.heap.size := Option.some.inj e; have e2 := ((unhide LIE).2 j hj p hp).2; omega)); have y9 : w9.cell? ⟨g4, i, none⟩ = some (.slice (some ⟨gb, 0, none⟩) N cb) := (by have k := ((unhide O11).out.here (unhide HUL) i (unhide HIN') 0 (by omega)).1; rw [unhide HEL] at k; simpa [rxC, rxV] using k); have z9 : w9.frozen? ⟨g4, i, none⟩ = false := (by have k := ((unhide O11).out.here (unhide HUL) i (unhide HIN') 0 (by omega)).2; simpa using k); have OX := hide o9; have GR := hide gr9; have H9 := hide h9; clear o9 gr9 n9 h9 O10)
    obtain ⟨X1, hX1⟩ : ∃ X1 : Rx, X1 = ⟨some ⟨g9, 0, none⟩, N, c9, R⟩ := ⟨_, rfl⟩
    have rx1 : rxV X1 = .slice (some ⟨g9, 0, none⟩) N c9 := by rw [hX1]; rfl
    have hg4 := unhide HG4
    have h9 := unhide H9
    have hsz1 := unhide HSZ1
    have hin' := unhide HIN'
    have hul := unhide HUL
    obtain ⟨V3, hV3⟩ : ∃ V, V = w9.setCell ⟨g4, i, none⟩ (.slice (some ⟨g9, 0, none⟩) N c9) := ⟨_, rfl⟩
    have P3 : Hid (OwnRr V3 w3.heap.size (.slice (some ⟨g4, 0, none⟩) n c4) (us4.set i X1)) := hide (by
      rw [hV3, ← rx1]
      refine (unhide O11).put hul hin' ?_ ?_ ?_
      · rw [rx1, hX1]; exact (unhide OX).mono hsz1
      · rw [rx1]; intro e; have e1 : g9 = g4 := Option.some.inj e; omega
      · intro j hj p hp e
        rw [rx1] at e
        have e1 : g9 = p := Option.some.inj e
        have e2 := ((unhide LIE).2 j (by omega) p hp).2
        omega)
    have BB11 := hide (((unhide BB10).grown (unhide GR) (unhide BB10).size (fun p hp => by have e1 : V1.heap.size = p := Option.some.inj hp; omega)).setCell (p := ⟨g4, i, none⟩) hg4.1 (.slice (some ⟨g9, 0, none⟩) N c9))
    have OX3 := hide ((unhide OX).set_other (S := g4) (o := i) (.slice (some ⟨g9, 0, none⟩) N c9) (fun e => by have e1 : g9 = g4 := Option.some.inj e; omega))
    rw [← hV3] at BB11 OX3 ⊢
    have el1 : elAt (us4.set i X1) i = X1 := by rw [elAt_set _ _ _ _ (by omega), if_pos rfl]
    have hul1 : (us4.set i X1).length = n := by simp [hul]
    have hgg : g9 ≠ g4 := by omega
    obtain ⟨v, hv⟩ : ∃ v, nth R q = v := ⟨_, rfl⟩
    rw [hv] at hvb
    clear hV3 y9 z9 O11 OX GR BB10 O9 BB9 G2 HROW2 c4c2
    obtain ⟨ι, fW, _, hcb, hcl⟩ := belClass V3
    have HB := hide hcb
    have HA := hide hcl
    have BW3 := hide ((unhide B3).trans ((unhide BB11).mono (unhide B3).size))
    have d4 : ∀ x, (fW x).cell? ⟨g4, i, none⟩ = some (.slice (some ⟨g9, 0, none⟩) N c9) := fun x => by
      have k := (((unhide P3).below (hcb x)).out.here hul1 i hin' 0 (by omega)).1
      rw [el1, Nat.mul_one, Nat.add_zero] at k
      exact k.trans (congrArg some rx1)
    have d9 : ∀ x, (fW x).cell? ⟨g9, q, none⟩ = some (.int .i64 v) := fun x => by
      have k := (((unhide OX3).below (hcb x)).atN (unhide HRL) q (unhide HQN)).1
      rw [hv] at k
      exact k
    have r9 : ∀ x, (fW x).frozen? ⟨g9, q, none⟩ = false := fun x => (((unhide OX3).below (hcb x)).atN (unhide HRL) q (unhide HQN)).2
    have AT3 : Hid (∀ x, Calls Try.prog 25 #[.slice a len cap, .int .i64 3] (fW x) fun e w' => e = .returned (.int .i64 (f 3)) ∧ w' = fW x) := hide (fun x => (unhide HAT) 3 3 rfl (by omega) (fW x) ((unhide BW3).trans ((hcb x).mono (unhide BW3).size)))
    have HV := hide hv
    have HX1 := hide hX1
    have RX1 := hide rx1
    have EL1 := hide el1
    have HUL1 := hide hul1
    obtain ⟨y0, hy0⟩ := hcl V3 (Below.refl _ _)
    rw [hy0]
    clear hcb hcl hy0 hv hX1 rx1 el1 hul1 hul hin' hsz1 h9 hg4
    go_wp2_with fail
    refine wp_region_then (fun w' h => (unhide HA) w' ((unhide HB _).trans (h.mono (unhide HB _).size))) (by kernel_rfl) (by kernel_rfl) (by kernel_rfl) ?_
    dsimp only [swapLast, lastOf]
    (repeat (go_big_quiet_step (first | (go_at_call 25; with_reducible exact belS ((unhide AT3) _)))))
    refine wpQuiet_nil ?_
    rintro _ ⟨y, rfl⟩
    go_simp
    obtain ⟨Y, hY⟩ : ∃ Y, v + 1 - 2 * (f 3 % 2) = Y := ⟨_, rfl⟩
    rw [hY]
    have hYb : -30001 ≤ Y ∧ Y ≤ 30001 := by omega
    have HYV : Hid (Y ≠ v) := hide (by omega)
    obtain ⟨V4, hV4⟩ : ∃ V, V = (fW y).setCell ⟨g9, q, none⟩ (.int .i64 Y) := ⟨_, rfl⟩
    obtain ⟨X2, hX2⟩ : ∃ X2 : Rx, X2 = ⟨some ⟨g9, 0, none⟩, N, c9, R.set q Y⟩ := ⟨_, rfl⟩
    have BYy := hide (unhide HB y)
    have P4 : Hid (OwnRr V4 w3.heap.size (.slice (some ⟨g4, 0, none⟩) n c4) ((us4.set i X1).set i X2)) := hide (by
      rw [hV4, hX2]
      exact ((unhide P3).below (unhide BYy)).turn (by rw [unhide HUL1]; exact unhide HIN') (by rw [unhide EL1, unhide HX1]) (unhide HRL) (unhide HQN) (by omega))
    have BB12 := hide (((unhide BB11).trans ((unhide BYy).mono (unhide BB11).size)).setCell (p := ⟨g9, q, none⟩) (Nat.le_trans (unhide HSZ1) (unhide H9)) (.int .i64 Y))
    rw [← hV4] at BB12 ⊢
    have EL2 : Hid (elAt ((us4.set i X1).set i X2) i = X2) := hide (by rw [elAt_set _ _ _ _ (by rw [unhide HUL1]; exact unhide HIN'), if_pos rfl])
    have CON : Hid (rxZ ((us4.set i X1).set i X2) = oneC z i q Y) := hide (by
      rw [rxZ_set, rxZ_set, unhide CONZ, List.set_set, hX2]
      show z.set i (R.set q Y) = z.set i ((nthS z i).set q Y)
      rw [unhide HR])
    have HRX2 : Hid (rxV X2 = .slice (some ⟨g9, 0, none⟩) N c9) := hide (by rw [hX2]; rfl)
    have RSA := hide ((unhide RS3).below (unhide BB12))
    have RSB : Hid (RowS V4 (some ⟨g4, 0, none⟩) n (oneC z i q Y)) := hide (by
      have k := (unhide P4).read (by rw [List.length_set, unhide HUL1]; omega)
      rw [unhide CON] at k
      exact k)
    have HX2 := hide hX2
    clear hV4 hX2 d4 d9 r9 AT3 HA HB hY BYy
    go_wp2_with fail
    refine (implSame20_any _ _ _ z _ _ _ (oneC z i q Y) _ (unhide RSA) (unhide RSB)).mono ?_
    rintro e w13 ⟨rfl, b13⟩
    have P5 := hide ((unhide P4).below b13)
    have e4 : w13.cell? ⟨g4, i, none⟩ = some (.slice (some ⟨g9, 0, none⟩) N c9) := by
      have k := ((unhide P5).out.here (by rw [List.length_set]; exact unhide HUL1) i (unhide HIN') 0 (by omega)).1
      rw [unhide EL2, Nat.mul_one, Nat.add_zero] at k
      exact k.trans (congrArg some (unhide HRX2))
    have e9 : w13.cell? ⟨g9, q, none⟩ = some (.int .i64 Y) := by
      have k := (unhide P5).dat i (by rw [List.length_set, unhide HUL1]; exact unhide HIN')
      rw [unhide EL2, unhide HRX2, unhide HX2] at k
      have k2 := (OwnI.atN k (by simp [unhide HRL]) q (unhide HQN)).1
      simp only at k2
      rw [nth_set _ _ _ _ (by rw [unhide HRL]; exact unhide HQN), if_pos rfl] at k2
      exact k2
    have BB13 := hide ((unhide BB12).trans (b13.mono (unhide BB12).size))
    have BW := hide ((unhide B3).trans ((unhide BB13).mono (unhide B3).size))
    have hi1 : i < z.length := by rw [unhide HN]; exact unhide HIN'
    have hq1 : q < (nthS z i).length := by rw [unhide HR, unhide HRL]; exact unhide HQN
    clear b13 P4 BB12 RSA RSB
    by_cases hin2 : -30000 ≤ Y ∧ Y ≤ 30000
    · obtain ⟨s1, s2, s3⟩ := same_one (unhide RC) (y := Y) hi1 hq1 hin2.1 hin2.2 (by rw [unhide HR, unhide HV]; exact unhide HYV)
      rw [s1, s2, s3]
      have k1 : decide (30000 < Y) = false := by simp; omega
      have k2 : decide (Y < -30000) = false := by simp; omega
      clear s1 s2 s3 hi1 hq1 hin2
      go_wp2_with fail
      go_ret
      exact ⟨rfl, unhide BW⟩
    · obtain ⟨s1, s2, s3⟩ := same_bad (A := z) (y := Y) hi1 hq1 (by omega)
      rw [s1, s2, s3]
      clear s1 s2 s3 hi1 hq1
      by_cases hY1 : 30000 < Y
      · have k1 : decide (30000 < Y) = true := by simpa using hY1
        clear hin2 hY1
        go_wp2_with fail
        go_ret
        exact ⟨rfl, unhide BW⟩
      · have k1 : decide (30000 < Y) = false := by simpa using hY1
        have k2 : decide (Y < -30000) = true := by simp; omega
        clear hin2 hY1
        go_wp2_with fail
        go_ret
        exact ⟨rfl, unhide BW⟩
  · obtain ⟨u0, u1⟩ := unPl_in (unhide BY6)
    have uu := unLs_off hU
    rw [uu] at o7 ⊢
    have hC : (unCo bs == 0) = false := by rw [beq_eq_false_iff_ne]; exact hU
    rw [unhide HM] at u1
    obtain ⟨U, hUv⟩ : ∃ U, unCo bs = U := ⟨_, rfl⟩
    obtain ⟨P, hP⟩ : ∃ P, unPl bs = P := ⟨_, rfl⟩
    rw [hUv] at hC ⊢
    rw [hP] at u0 u1 ⊢
    have d1 : decide (P < 0) = false := by simp; omega
    have d2 : decide ((m : Int) < P) = false := by simp; omega
    have BB8 := BB7
    have O8 := O7
    obtain ⟨V, hV⟩ : ∃ V, V = w7 := ⟨_, rfl⟩
    rw [← hV] at BB8 O8 ⊢
    clear hV o7 b7 hU uu hUv hP hm15 O6 RX BB6 O7 BB7 RX7
    go_upto_region 19 with fail
    clear hC d1 d2
    by_cases hn0 : n = 0
    · have e0 : ((n : Int) == 0) = true := by rw [hn0]; rfl
      clear hn0
      go_wp2_with fail
      go_ret
      exact ⟨rfl, (unhide B3).trans ((unhide BB8).mono (unhide B3).size)⟩
    have e0 : ((n : Int) == 0) = false := by rw [beq_eq_false_iff_ne]; omega
    have hz0 : 0 < z.length := by rw [unhide HN]; omega
    have hW := rcD_wd (unhide RD) hz0
    obtain ⟨N, hN⟩ : ∃ N, wdN z = N := ⟨_, rfl⟩
    rw [hN] at hW
    have HNW := hide hN
    have HZ0 := hide hz0
    have RS8 := hide ((unhide RS3).below (unhide BB8))
    rcases (unhide RS8).open_ with ⟨h0, _⟩ | ⟨bb, off, hbo, _, hcz⟩
    · omega
    simp only [Option.some.injEq, Addr.mk.injEq, and_true] at hbo
    obtain ⟨rfl, rfl⟩ := hbo
    obtain ⟨a0, l0, c0, cz0, rz0, _⟩ := hcz 0 (by omega)
    have hl0 : l0 = N := by have q2 := unhide HNW; have q3 := rz0.len_eq; unfold wdN at q2; omega
    rw [hl0] at cz0
    rw [Nat.add_zero] at cz0
    have HWJ : Hid (∀ j, j < n → (nthS z j).length = N) := hide (fun j hj => by
      obtain ⟨N', _, _, hr⟩ := unhide RD
      have q1 := (hr _ (nthS_in (z := z) (i := j) (by rw [unhide HN]; exact hj))).1
      have q2 := (hr _ (nthS_in (z := z) (i := 0) hz0)).1
      have q3 := unhide HNW
      unfold wdN at q3
      omega)
    clear hN hz0 hl0 rz0 hcz
    obtain ⟨i, hi⟩ : ∃ i : Nat, f 1 % (n : Int) = (i : Int) := ⟨(f 1 % (n : Int)).toNat, by have := Int.emod_nonneg (f 1) (show (n : Int) ≠ 0 by omega); omega⟩
    have hin' : i < n := by have := Int.emod_lt_of_pos (f 1) (show (0 : Int) < (n : Int) by omega); rw [hi] at this; omega
    obtain ⟨q, hq⟩ : ∃ q : Nat, f 2 % (N : Int) = (q : Int) := ⟨(f 2 % (N : Int)).toNat, by have := Int.emod_nonneg (f 2) (show (N : Int) ≠ 0 by omega); omega⟩
    have hqN : q < N := by have := Int.emod_lt_of_pos (f 2) (show (0 : Int) < (N : Int) by omega); rw [hq] at this; omega
    have HI := hide hi
    have HQ := hide hq
    clear hi hq
    obtain ⟨ι, fW, _, hcb, hcl⟩ := belClass V
    have HB := hide hcb
    have HA := hide hcl
    have z0 : ∀ x, (fW x).cell? ⟨g, 0, none⟩ = some (.slice a0 N c0) := fun x => ((hcb x).cell (block_lt_of_cell cz0)).trans cz0
    have BW8 := hide ((unhide B3).trans ((unhide BB8).mono (unhide B3).size))
    have AT1 : Hid (∀ x, Calls Try.prog 25 #[.slice a len cap, .int .i64 1] (fW x) fun e w' => e = .returned (.int .i64 (f 1)) ∧ w' = fW x) := hide (fun x => (unhide HAT) 1 1 rfl (by omega) (fW x) ((unhide BW8).trans ((hcb x).mono (unhide BW8).size)))
    have AT2 : Hid (∀ x, Calls Try.prog 25 #[.slice a len cap, .int .i64 2] (fW x) fun e w' => e = .returned (.int .i64 (f 2)) ∧ w' = fW x) := hide (fun x => (unhide HAT) 2 2 rfl (by omega) (fW x) ((unhide BW8).trans ((hcb x).mono (unhide BW8).size)))
    obtain ⟨y0, hy0⟩ := hcl V (Below.refl _ _)
    have n0n : ((n : Int) == 0) = false := e0
    have n0N : ((N : Int) == 0) = false := by rw [beq_eq_false_iff_ne]; omega
    have n1n : ¬ ((n : Int) = 0) := by omega
    have n1N : ¬ ((N : Int) = 0) := by omega
    have i00 : (0 : Int) < (n : Int) := by omega
    rw [hy0]
    clear hcb hcl hy0 hn0
    go_wp2_with fail
    refine wp_region_bel (fun w' h => (unhide HA) w' ((unhide HB _).trans (h.mono (unhide HB _).size))) (by kernel_rfl) (by kernel_rfl) ?_
    (repeat (go_big_quiet_step (first | (go_at_call 25; with_reducible exact belS ((unhide AT1) _)) | (go_at_call 25; with_reducible exact belS ((unhide AT2) _)))))
    refine wpQuiet_nil ?_
    rintro _ ⟨y, rfl⟩
    rw [unhide HI, unhide HQ]
    have BY := hide (unhide HB y)
    obtain ⟨V1, hV1⟩ : ∃ V, V = fW y := ⟨_, rfl⟩
    rw [← hV1] at BY ⊢
    have O9 := hide ((unhide O8).below (unhide BY))
    have BB9 := hide ((unhide BB8).trans ((unhide BY).mono (unhide BB8).size))
    clear hV1 z0 AT1 AT2 HA HB BY O8 BB8 RS8 cz0 BW8
    -- the row that is copied
    have hul : us4.length = n := hul4
    have hzs : (elAt us4 i).zs = nthS z i := by have := rxZ_at (us := us4) (i := i) (by omega); rw [(unhide O9).con] at this; exact this.symm
    have hRl : (nthS z i).length = N := (unhide HWJ) i hin'
    obtain ⟨R, hR⟩ : ∃ R, nthS z i = R := ⟨_, rfl⟩
    rw [hR] at hzs hRl
    obtain ⟨gb, cb, hel, hgb1, hgb2, ogb⟩ := (unhide O9).o.row_at (i := i) (by omega) (by rw [hzs]; intro e; rw [e] at hRl; simp at hRl; omega)
    rw [hzs, hRl] at hel ogb
    have hg4 := (unhide O9).o.lies.1 g4 rfl
    have LI := hide (unhide O9).o.lies.2
    have hsz1 := (unhide BB9).size
    have c4c : V1.cell? ⟨g4, i, none⟩ = some (.slice (some ⟨gb, 0, none⟩) N cb) := by have := ((unhide O9).o.out.here hul i hin' 0 (by omega)).1; rw [hel] at this; simpa [rxC, rxV] using this
    have HROW : Hid (∀ j, j < N → V1.cell? ((⟨gb, 0, none⟩ : Addr).add j) = some (.int .i64 (nth R j))) := hide (fun j hj => by
      rcases (OwnI.row ogb).open_ with ⟨h0, _⟩ | ⟨b9, o9, e, _, hc⟩
      · omega
      simp only [Option.some.injEq, Addr.mk.injEq, and_true] at e
      obtain ⟨rfl, rfl⟩ := e
      rw [addr_addR]; exact hc j hj)
    have HFIT := hide ogb.fit
    have HRL := hide hRl
    have HR := hide hR
    have HEL := hide hel
    have HUL := hide hul
    have hb2 : Below V1.heap.size V1 (V1.alloc (Obj.cells #[] 3)) := bel1 _
    have c4c2 : (V1.alloc (Obj.cells #[] 3)).cell? ⟨g4, i, none⟩ = some (.slice (some ⟨gb, 0, none⟩) N cb) := (hb2.cell (block_lt_of_cell c4c)).trans c4c
    have HROW2 : Hid (∀ j, j < N → (V1.alloc (Obj.cells #[] 3)).cell? ((⟨gb, 0, none⟩ : Addr).add j) = some (.int .i64 (nth R j))) := hide (fun j hj => (hb2.cell (by rw [addr_addR]; exact hgb2)).trans ((unhide HROW) j hj))
    have G2 : Hid (OwnI (V1.alloc (Obj.cells #[] 3)) V1.heap.size (.slice (some ⟨V1.heap.size, 0, none⟩) 0 0) []) := hide (ownI_lit (w := V1) (base := V1.heap.size) (k := 0) (zs := []) (Nat.le_refl _) (by simp) (by simp) (by simp))
    have O10 := hide ((unhide O9).below hb2)
    have BB10 := hide ((unhide BB9).trans (hb2.mono hsz1))
    have HRN : Hid (R ≠ []) := hide (by intro e; rw [e] at hRl; simp at hRl; omega)
    have LIE := hide (unhide O9).o.lies
    have CONZ := hide (unhide O9).con
    have hvb : -30000 ≤ nth R q ∧ nth R q ≤ 30000 := by
      obtain ⟨N', _, _, hr⟩ := unhide RD
      have k1 := (hr _ (nthS_in (z := z) (i := i) (by rw [unhide HN]; exact hin'))).2
      rw [hR] at k1
      exact k1 _ (nth_in (by omega))
    have i0 : (0 : Int) ≤ (i : Int) := by omega
    have i1 : (i : Int) < (n : Int) := by omega
    have q0 : (0 : Int) ≤ (q : Int) := by omega
    have q1 : (q : Int) < (N : Int) := by omega
    have HIN' := hide hin'
    have HQN := hide hqN
    have HG4 := hide hg4
    have HSZ1 := hide hsz1
    clear hb2 hzs hRl hR hel hul ogb HROW c4c hg4 hsz1 hgb1 hgb2
    go_wp2_with (at_builtin; refine wpList_app_ints rfl _ _ rfl (unhide G2) rfl ⟨gb, 0, none⟩ N cb R rfl (unhide HRL) (unhide HROW2) (unhide HFIT) (by have h9 := unhide HRL; have h8 := unhide RD; obtain ⟨N', k1, _, _⟩ := h8; simp; omega) (by simp) ?_; intro v9 w9 o9 gr9 n9; rw [List.nil_append] at o9; rcases o9.form with ⟨e9, x9⟩ | ⟨g9, c9, e9, h9, _, _, _⟩; (exact absurd x9 (unhide HRN)); rw [unhide HRL] at e9; subst e9; have O11 : Hid (OwnRr w9 w3.heap.size (.slice (some ⟨g4, 0, none⟩) n c4) us4) := hide ((unhide O10).o.far gr9 (fun p hp e => by have e1 : p = V1.heap.size := Option.some.inj e; have e2 := ((unhide LIE).1 p hp).2; omega) (fun j hj p hp e => by have e1 : p = V1.heap.size := Option.some.inj e; have e2 := ((unhide LIE).2 j hj p hp).2; omega)); have y9 : w9.cell? ⟨g4, i, none⟩ = some (.slice (some ⟨gb, 0, none⟩) N cb) := (by have k := ((unhide O11).out.here (unhide HUL) i (unhide HIN') 0 (by omega)).1; rw [unhide HEL] at k; simpa [rxC, rxV] using k); have z9 : w9.frozen? ⟨g4, i, none⟩ = false := (by have k := ((unhide O11).out.here (unhide HUL) i (unhide HIN') 0 (by omega)).2; simpa using k); have OX := hide o9; have GR := hide gr9; have H9 := hide h9; clear o9 gr9 n9 h9 O10)
    obtain ⟨X1, hX1⟩ : ∃ X1 : Rx, X1 = ⟨some ⟨g9, 0, none⟩, N, c9, R⟩ := ⟨_, rfl⟩
    have rx1 : rxV X1 = .slice (some ⟨g9, 0, none⟩) N c9 := by rw [hX1]; rfl
    have hg4 := unhide HG4
    have h9 := unhide H9
    have hsz1 := unhide HSZ1
    have hin' := unhide HIN'
    have hul := unhide HUL
    obtain ⟨V3, hV3⟩ : ∃ V, V = w9.setCell ⟨g4, i, none⟩ (.slice (some ⟨g9, 0, none⟩) N c9) := ⟨_, rfl⟩
    have P3 : Hid (OwnRr V3 w3.heap.size (.slice (some ⟨g4, 0, none⟩) n c4) (us4.set i X1)) := hide (by
      rw [hV3, ← rx1]
      refine (unhide O11).put hul hin' ?_ ?_ ?_
      · rw [rx1, hX1]; exact (unhide OX).mono hsz1
      · rw [rx1]; intro e; have e1 : g9 = g4 := Option.some.inj e; omega
      · intro j hj p hp e
        rw [rx1] at e
        have e1 : g9 = p := Option.some.inj e
        have e2 := ((unhide LIE).2 j (by omega) p hp).2
        omega)
    have BB11 := hide (((unhide BB10).grown (unhide GR) (unhide BB10).size (fun p hp => by have e1 : V1.heap.size = p := Option.some.inj hp; omega)).setCell (p := ⟨g4, i, none⟩) hg4.1 (.slice (some ⟨g9, 0, none⟩) N c9))
    have OX3 := hide ((unhide OX).set_other (S := g4) (o := i) (.slice (some ⟨g9, 0, none⟩) N c9) (fun e => by have e1 : g9 = g4 := Option.some.inj e; omega))
    rw [← hV3] at BB11 OX3 ⊢
    have el1 : elAt (us4.set i X1) i = X1 := by rw [elAt_set _ _ _ _ (by omega), if_pos rfl]
    have hul1 : (us4.set i X1).length = n := by simp [hul]
    have hgg : g9 ≠ g4 := by omega
    obtain ⟨v, hv⟩ : ∃ v, nth R q = v := ⟨_, rfl⟩
    rw [hv] at hvb
    clear hV3 y9 z9 O11 OX GR BB10 O9 BB9 G2 HROW2 c4c2
    obtain ⟨ι, fW, _, hcb, hcl⟩ := belClass V3
    have HB := hide hcb
    have HA := hide hcl
    have BW3 := hide ((unhide B3).trans ((unhide BB11).mono (unhide B3).size))
    have d4 : ∀ x, (fW x).cell? ⟨g4, i, none⟩ = some (.slice (some ⟨g9, 0, none⟩) N c9) := fun x => by
      have k := (((unhide P3).below (hcb x)).out.here hul1 i hin' 0 (by omega)).1
      rw [el1, Nat.mul_one, Nat.add_zero] at k
      exact k.trans (congrArg some rx1)
    have d9 : ∀ x, (fW x).cell? ⟨g9, q, none⟩ = some (.int .i64 v) := fun x => by
      have k := (((unhide OX3).below (hcb x)).atN (unhide HRL) q (unhide HQN)).1
      rw [hv] at k
      exact k
    have r9 : ∀ x, (fW x).frozen? ⟨g9, q, none⟩ = false := fun x => (((unhide OX3).below (hcb x)).atN (unhide HRL) q (unhide HQN)).2
    have AT3 : Hid (∀ x, Calls Try.prog 25 #[.slice a len cap, .int .i64 3] (fW x) fun e w' => e = .returned (.int .i64 (f 3)) ∧ w' = fW x) := hide (fun x => (unhide HAT) 3 3 rfl (by omega) (fW x) ((unhide BW3).trans ((hcb x).mono (unhide BW3).size)))
    have HV := hide hv
    have HX1 := hide hX1
    have RX1 := hide rx1
    have EL1 := hide el1
    have HUL1 := hide hul1
    obtain ⟨y0, hy0⟩ := hcl V3 (Below.refl _ _)
    rw [hy0]
    clear hcb hcl hy0 hv hX1 rx1 el1 hul1 hul hin' hsz1 h9 hg4
    go_wp2_with fail
    refine wp_region_then (fun w' h => (unhide HA) w' ((unhide HB _).trans (h.mono (unhide HB _).size))) (by kernel_rfl) (by kernel_rfl) (by kernel_rfl) ?_
    dsimp only [swapLast, lastOf]
    (repeat (go_big_quiet_step (first | (go_at_call 25; with_reducible exact belS ((unhide AT3) _)))))
    refine wpQuiet_nil ?_
    rintro _ ⟨y, rfl⟩
    go_simp
    obtain ⟨Y, hY⟩ : ∃ Y, v + 1 - 2 * (f 3 % 2) = Y := ⟨_, rfl⟩
    rw [hY]
    have hYb : -30001 ≤ Y ∧ Y ≤ 30001 := by omega
    have HYV : Hid (Y ≠ v) := hide (by omega)
    obtain ⟨V4, hV4⟩ : ∃ V, V = (fW y).setCell ⟨g9, q, none⟩ (.int .i64 Y) := ⟨_, rfl⟩
    obtain ⟨X2, hX2⟩ : ∃ X2 : Rx, X2 = ⟨some ⟨g9, 0, none⟩, N, c9, R.set q Y⟩ := ⟨_, rfl⟩
    have BYy := hide (unhide HB y)
    have P4 : Hid (OwnRr V4 w3.heap.size (.slice (some ⟨g4, 0, none⟩) n c4) ((us4.set i X1).set i X2)) := hide (by
      rw [hV4, hX2]
      exact ((unhide P3).below (unhide BYy)).turn (by rw [unhide HUL1]; exact unhide HIN') (by rw [unhide EL1, unhide HX1]) (unhide HRL) (unhide HQN) (by omega))
    have BB12 := hide (((unhide BB11).trans ((unhide BYy).mono (unhide BB11).size)).setCell (p := ⟨g9, q, none⟩) (Nat.le_trans (unhide HSZ1) (unhide H9)) (.int .i64 Y))
    rw [← hV4] at BB12 ⊢
    have EL2 : Hid (elAt ((us4.set i X1).set i X2) i = X2) := hide (by rw [elAt_set _ _ _ _ (by rw [unhide HUL1]; exact unhide HIN'), if_pos rfl])
    have CON : Hid (rxZ ((us4.set i X1).set i X2) = oneC z i q Y) := hide (by
      rw [rxZ_set, rxZ_set, unhide CONZ, List.set_set, hX2]
      show z.set i (R.set q Y) = z.set i ((nthS z i).set q Y)
      rw [unhide HR])
    have HRX2 : Hid (rxV X2 = .slice (some ⟨g9, 0, none⟩) N c9) := hide (by rw [hX2]; rfl)
    have RSA := hide ((unhide RS3).below (unhide BB12))
    have RSB : Hid (RowS V4 (some ⟨g4, 0, none⟩) n (oneC z i q Y)) := hide (by
      have k := (unhide P4).read (by rw [List.length_set, unhide HUL1]; omega)
      rw [unhide CON] at k
      exact k)
    have HX2 := hide hX2
    clear hV4 hX2 d4 d9 r9 AT3 HA HB hY BYy
    go_wp2_with fail
    refine (implSame20_any _ _ _ z _ _ _ (oneC z i q Y) _ (unhide RSA) (unhide RSB)).mono ?_
    rintro e w13 ⟨rfl, b13⟩
    have P5 := hide ((unhide P4).below b13)
    have e4 : w13.cell? ⟨g4, i, none⟩ = some (.slice (some ⟨g9, 0, none⟩) N c9) := by
      have k := ((unhide P5).out.here (by rw [List.length_set]; exact unhide HUL1) i (unhide HIN') 0 (by omega)).1
      rw [unhide EL2, Nat.mul_one, Nat.add_zero] at k
      exact k.trans (congrArg some (unhide HRX2))
    have e9 : w13.cell? ⟨g9, q, none⟩ = some (.int .i64 Y) := by
      have k := (unhide P5).dat i (by rw [List.length_set, unhide HUL1]; exact unhide HIN')
      rw [unhide EL2, unhide HRX2, unhide HX2] at k
      have k2 := (OwnI.atN k (by simp [unhide HRL]) q (unhide HQN)).1
      simp only at k2
      rw [nth_set _ _ _ _ (by rw [unhide HRL]; exact unhide HQN), if_pos rfl] at k2
      exact k2
    have BB13 := hide ((unhide BB12).trans (b13.mono (unhide BB12).size))
    have BW := hide ((unhide B3).trans ((unhide BB13).mono (unhide B3).size))
    have hi1 : i < z.length := by rw [unhide HN]; exact unhide HIN'
    have hq1 : q < (nthS z i).length := by rw [unhide HR, unhide HRL]; exact unhide HQN
    clear b13 P4 BB12 RSA RSB
    by_cases hin2 : -30000 ≤ Y ∧ Y ≤ 30000
    · obtain ⟨s1, s2, s3⟩ := same_one (unhide RC) (y := Y) hi1 hq1 hin2.1 hin2.2 (by rw [unhide HR, unhide HV]; exact unhide HYV)
      rw [s1, s2, s3]
      have k1 : decide (30000 < Y) = false := by simp; omega
      have k2 : decide (Y < -30000) = false := by simp; omega
      clear s1 s2 s3 hi1 hq1 hin2
      go_wp2_with fail
      go_ret
      exact ⟨rfl, unhide BW⟩
    · obtain ⟨s1, s2, s3⟩ := same_bad (A := z) (y := Y) hi1 hq1 (by omega)
      rw [s1, s2, s3]
      clear s1 s2 s3 hi1 hq1
      by_cases hY1 : 30000 < Y
      · have k1 : decide (30000 < Y) = true := by simpa using hY1
        clear hin2 hY1
        go_wp2_with fail
        go_ret
        exact ⟨rfl, unhide BW⟩
      · have k1 : decide (30000 < Y) = false := by simpa using hY1
        have k2 : decide (Y < -30000) = true := by simp; omega
        clear hin2 hY1
        go_wp2_with fail
        go_ret
        exact ⟨rfl, unhide BW⟩

theorem lawFnRecords (a : Option Addr) (len cap : Nat) (w : World) (hb : Bytes w a len) (hin : ∀ b off, a = some ⟨b, off, none⟩ → b < w.heap.size) :
    Calls Try.prog 5 #[.slice a len cap] w fun e w' => e = .returned (.bool true) ∧ Below w.heap.size w w' := by
  by_cases h : (1048576 : Int) < len
  · exact lawFnRecords_big a len cap w h
  · exact lawFnRecords_small a len cap w h hb hin

end Go.Proofs.Ytfnnfldfnjnlfag
