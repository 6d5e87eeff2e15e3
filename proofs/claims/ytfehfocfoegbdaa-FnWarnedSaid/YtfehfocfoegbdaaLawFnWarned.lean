/-
  The law FnWarned returns true at every list of bytes and writes nothing that was there: the walk. No condition.
-/
import Derived.Test.YtfehfocfoegbdaaMWdFacts
import Derived.Test.YtfehfocfoegbdaaMWrNm
import Derived.Test.YtfehfocfoegbdaaWdDr
import Derived.Test.YtfehfocfoegbdaaUpImpl14
import Derived.Test.YtfehfocfoegbdaaTkImpl14
import Derived.Test.YtfehfocfoegbdaaWrImpl
import Derived.Test.YtfehfocfoegbdaaMFyRes
import Derived.Deep.CutRange
import Derived.Deep.RegionLaw
namespace Go.Proofs.Ytfehfocfoegbdaa
open Go Go.RowKit

set_option maxRecDepth 20000 in
set_option maxHeartbeats 1000000 in
theorem lawFnWarned_big (a : Option Addr) (len cap : Nat) (w : World) (h : (1048576 : Int) < len) :
    Calls Try.prog 3 #[.slice a len cap] w fun e w' => e = .returned (.bool true) ∧ Below w.heap.size w w' := by
  have hd : decide ((1048576 : Int) < len) = true := by simpa using h
  go_enter Try.func3, Try.ntmps3
  go_wp2_with fail
  refine (big_any a len cap _).mono ?_
  rintro e w' ⟨rfl, hw⟩
  subst w'
  rw [hd]
  go_wp2
  go_ret
  exact ⟨rfl, Below.refl _ _⟩

set_option maxRecDepth 20000 in
set_option maxHeartbeats 16000000 in
theorem lawFnWarned_small (a : Option Addr) (len cap : Nat) (w : World) (h : ¬ (1048576 : Int) < len) (hb : Bytes w a len) (hin : ∀ b off, a = some ⟨b, off, none⟩ → b < w.heap.size) :
    Calls Try.prog 3 #[.slice a len cap] w fun e w' => e = .returned (.bool true) ∧ Below w.heap.size w w' := by
  have hd0 : decide ((1048576 : Int) < len) = false := by simpa using h
  have DRA := hide (drawWarned_any a len cap w hb hin)
  clear hb h hin
  go_enter Try.func3, Try.ntmps3
  go_wp2_with fail
  refine (big_any a len cap _).mono ?_
  rintro e w' ⟨rfl, hw⟩
  subst w'
  rw [hd0]
  go_wp2_with fail
  refine (unhide DRA).mono ?_
  rintro e B ⟨g, n, c, gp, N, cp, gl, cl, rs, ps, xs, rfl, hN, ⟨hw, h7, hno⟩, hr, hph, hpb, hlx, hxd, b1⟩
  have hn7 : n ≤ 7 := by have := hr.len_eq; omega
  have HW := hide hw
  have H7 := hide h7
  have HNO := hide hno
  have HR := hide hr
  have HPH := hide hph
  have HPB := hide hpb
  have HLX := hide hlx
  have HXD := hide hxd
  have HB := hide b1
  clear DRA hw h7 hno hr hph hpb hlx hxd b1
  obtain ⟨Q, hQ⟩ : ∃ Q, B.heap.size = Q := ⟨_, rfl⟩
  have S0 : Hid (WnS B Q none none none 0 0 0 0 0 0 [] [] [] (B.alloc (Obj.cells #[.slice none 0 0, .slice none 0 0, .slice none 0 0] 31))) := hide ⟨by rw [← hQ]; exact Blk.new [.slice none 0 0, .slice none 0 0, .slice none 0 0] _, ⟨⟨rfl, by simp, fun i hi => by simp at hi⟩, ⟨rfl, by simp, fun i hi => by simp at hi⟩, ⟨rfl, by simp, fun i hi => by simp at hi⟩⟩, bel1 _, by omega⟩
  go_wp2_with fail
  clear hQ
  go_loopw [7] (fun t7 wr => WnT B Q rs N t7 wr) (fun t7 _ => N - (intOf t7).toNat)
  case atStart => exact ⟨0, none, none, none, 0, 0, 0, 0, 0, 0, [], [], [], rfl, Nat.zero_le _, hide (WdP.nil rs), S0⟩
  case round =>
    clear S0
    obtain ⟨k, a1, a2, a3, l1, c1, l2, c2, l3, c3, z1, z2, z3, rfl, hk, HP, HS⟩ := hrel
    obtain ⟨hz1, hz2, hz3⟩ := (unhide HP).len (unhide HW)
    have hl1 := (unhide HS).i.r1.len_eq
    have hl2 := (unhide HS).i.r2.len_eq
    have hl3 := (unhide HS).i.r3.len_eq
    have hL1 : l1 ≤ 30 := by omega
    have hL2 : l2 ≤ 30 := by omega
    have hL3 : l3 ≤ 30 := by omega
    have HL1 := hide hl1
    have HL2 := hide hl2
    have HL3 := hide hl3
    have RB : Hid (∀ V, Below wr.heap.size wr V → RowW V (some ⟨g, 0, none⟩) n rs) := hide (fun V b => (unhide HR).below ((unhide HS).bel.trans (b.mono (unhide HS).bel.size)))
    clear hl1 hl2 hl3 hz1 hz2 hz3
    by_cases hlt : k < N
    · have i0 : (0 : Int) ≤ (k : Int) := by omega
      have i1 : (k : Int) < (N : Int) := by omega
      obtain ⟨ph, hph0⟩ : ∃ ph, nth ps k = ph := ⟨_, rfl⟩
      obtain ⟨x, hx0⟩ : ∃ x, elAt xs k = x := ⟨_, rfl⟩
      have hphb : 0 ≤ ph ∧ ph ≤ 9 := by rw [← hph0]; exact (unhide HPB) k hlt
      obtain ⟨hxr, hxn⟩ := (unhide HXD) x (by rw [← hx0]; exact elAt_mem.2 ⟨k, by have := (unhide HLX).len_eq; omega, rfl⟩)
      have KPH : Hid (B.cell? ⟨gp, k, none⟩ = some (.int .i64 ph)) := hide (by
        rcases (unhide HPH).open_ with ⟨h0, _⟩ | ⟨b, off, e, _, hc⟩
        · omega
        simp only [Option.some.injEq, Addr.mk.injEq, and_true] at e
        obtain ⟨rfl, rfl⟩ := e
        have q := hc k hlt
        rw [hph0] at q
        simpa using q)
      have KXL : Hid (B.cell? ⟨gl, k, none⟩ = some (.slice x.a x.ts.length x.c)) := hide (by
        rcases (unhide HLX).open1 with ⟨h0, _⟩ | ⟨b, off, e, _, hc⟩
        · omega
        simp only [Option.some.injEq, Addr.mk.injEq, and_true] at e
        obtain ⟨rfl, rfl⟩ := e
        have q := hc k hlt
        rw [hx0] at q
        simpa [sxC] using q)
      obtain ⟨act, hact⟩ : ∃ act, x.ts = act := ⟨_, rfl⟩
      rw [hact] at hxr hxn KXL
      have U := wd_up (ph := ph) (unhide HW) (unhide H7) (unhide HP) hxn
      have hB : upB rs z1 z2 z3 act ph = true := by
        rw [upB, unhide HW, (unhide HP).pnl, hxn]
        simp [inB, hphb]
      obtain ⟨u1, u2, u3, u4⟩ := up_yes hB
      obtain ⟨L, hL⟩ : ∃ L, wdL rs z2 z3 act ph = L := ⟨_, rfl⟩
      obtain ⟨K, hK⟩ : ∃ K, wdK z3 act = K := ⟨_, rfl⟩
      obtain ⟨T, hT⟩ : ∃ T, wdT rs z2 z3 act ph = T := ⟨_, rfl⟩
      have u2 : up2 rs z1 z2 z3 act ph = L := u2.trans hL
      have u3 : up3 rs z1 z2 z3 act ph = K := u3.trans hK
      have u4 : upT rs z1 z2 z3 act ph = T := u4.trans hT
      rw [hL, hK, hT] at U
      obtain ⟨mA, hmA⟩ : ∃ m, act.length = m := ⟨_, rfl⟩
      obtain ⟨mL, hmL⟩ : ∃ m, L.length = m := ⟨_, rfl⟩
      obtain ⟨mK, hmK⟩ : ∃ m, K.length = m := ⟨_, rfl⟩
      obtain ⟨mT, hmT⟩ : ∃ m, T.length = m := ⟨_, rfl⟩
      obtain ⟨hAl, hLl, hKl⟩ := U.pan.len (unhide HW)
      have bA : mA ≤ 30 := by omega
      have bL : mL ≤ 30 := by omega
      have bK : mK ≤ 30 := by omega
      have bT : mT ≤ 30 := by have := U.few; omega
      rw [hmA] at hxr KXL
      have HM : Hid (act.length = mA ∧ L.length = mL ∧ K.length = mK ∧ T.length = mT) := hide ⟨hmA, hmL, hmK, hmT⟩
      have HPHB := hide hphb
      have CD : Hid (∀ V, Below wr.heap.size wr V → Calls Try.prog 6 #[.slice (some ⟨g, 0, none⟩) n c, .agg #[.slice a1 l1 c1, .slice a2 l2 c2, .slice a3 l3 c3], .int .i64 ph, .slice x.a mA x.c] V fun e w' => ∃ (p1 : Option Addr) (q1 : Nat) (p2 : Option Addr) (q2 : Nat) (p3 : Option Addr) (q3 : Nat) (p4 : Option Addr) (q4 : Nat), e = .returned (.tuple #[.agg #[.slice p1 mA q1, .slice p2 mL q2, .slice p3 mK q3], .slice p4 mT q4, .bool true]) ∧ PnOwn w' V.heap.size p1 p2 p3 mA q1 mL q2 mK q3 act L K ∧ OwnE 1 stC w' V.heap.size 9 (.slice p4 mT q4) T ∧ Below V.heap.size V w') := hide (fun V bV => by
        have hl1 := unhide HL1
        have hl2 := unhide HL2
        have hl3 := unhide HL3
        have q := implUpdate14_any (some ⟨g, 0, none⟩) n c rs a1 a2 a3 l1 c1 l2 c2 l3 c3 z1 z2 z3 ph x.a mA x.c act V ((unhide RB) V bV) ((unhide HS).i.below bV) (hxr.below ((unhide HS).bel.trans (bV.mono (unhide HS).bel.size))) (fun i hi => nm_size (unhide HW) (unhide HP).a (by omega)) (fun i hi => nm_size (unhide HW) (unhide HP).l (by omega)) (fun i hi => nm_size (unhide HW) (unhide HP).t (by omega)) (fun i hi => nm_size (unhide HW) hxn (by omega))
        rw [u1, u2, u3, u4, hB, hmA, hmL, hmK, hmT] at q
        exact q.mono fun e w' ⟨p1, q1, p2, q2, p3, q3, p4, q4, he, o, t, _, b⟩ => ⟨p1, q1, p2, q2, p3, q3, p4, q4, he, o, t, b⟩)
      have HU := hide U
      have HXR := hide hxr
      have HXN := hide hxn
      clear hph0 hx0 hphb hxr hxn hact U hB u1 u2 u3 u4 hL hK hT hmA hmL hmK hmT hAl hLl hKl
      have f0 : wr.cell? ⟨gp, k, none⟩ = some (.int .i64 ph) := ((unhide HS).bel.cell (block_lt_of_cell (unhide KPH))).trans (unhide KPH)
      have f1 : wr.cell? ⟨gl, k, none⟩ = some (.slice x.a mA x.c) := ((unhide HS).bel.cell (block_lt_of_cell (unhide KXL))).trans (unhide KXL)
      have u0 : wr.cell? ⟨Q, 0, none⟩ = some (.slice a1 l1 c1) := (unhide HS).q.c 0 (by simp)
      have u1 : wr.cell? ⟨Q, 1, none⟩ = some (.slice a2 l2 c2) := (unhide HS).q.c 1 (by simp)
      have u2 : wr.cell? ⟨Q, 2, none⟩ = some (.slice a3 l3 c3) := (unhide HS).q.c 2 (by simp)
      have u0A : ∀ o, (wr.alloc o).cell? ⟨Q, 0, none⟩ = some (.slice a1 l1 c1) := fun o => ((bel1 (w := wr) o).cell (block_lt_of_cell u0)).trans u0
      have u1A : ∀ o, (wr.alloc o).cell? ⟨Q, 1, none⟩ = some (.slice a2 l2 c2) := fun o => ((bel1 (w := wr) o).cell (block_lt_of_cell u1)).trans u1
      have u2A : ∀ o, (wr.alloc o).cell? ⟨Q, 2, none⟩ = some (.slice a3 l3 c3) := fun o => ((bel1 (w := wr) o).cell (block_lt_of_cell u2)).trans u2
      have f0A : ∀ o, (wr.alloc o).cell? ⟨gp, k, none⟩ = some (.int .i64 ph) := fun o => ((bel1 (w := wr) o).cell (block_lt_of_cell f0)).trans f0
      have f1A : ∀ o, (wr.alloc o).cell? ⟨gl, k, none⟩ = some (.slice x.a mA x.c) := fun o => ((bel1 (w := wr) o).cell (block_lt_of_cell f1)).trans f1
      go_wp2_with fail
      go_cut [8, 9, 10] from 37 to 52 (fun s8 s9 s10 wc => WnC wr mA mL mK mT act L K T s8 s9 s10 wc)
      case first =>
        go_region_law ((fail_if_success have := D1); go_simp; go_wp2_with (go_at_call 6; refine ((unhide CD) _ (by first | exact Below.refl _ _ | exact bel0d' 1 | exact bel1 _ | exact (bel1 (w := wr) _).trans (bel0d' 1))).mono ?_; rintro e w8 ⟨p1, q1, p2, q2, p3, q3, p4, q4, rfl, o8, t8, b8⟩; have D1 := trivial; (first | (have nb := (Blk.new (w := wr) [.slice none 0 0, .slice none 0 0, .slice none 0 0] 31).below b8; have y0 : w8.cell? ⟨wr.heap.size, 0, none⟩ = some (.slice none 0 0) := nb.c 0 (by simp); have z0 : w8.frozen? ⟨wr.heap.size, 0, none⟩ = false := nb.f 0 (by simp); have y1 : w8.cell? ⟨wr.heap.size, 1, none⟩ = some (.slice none 0 0) := nb.c 1 (by simp); have z1 : w8.frozen? ⟨wr.heap.size, 1, none⟩ = false := nb.f 1 (by simp); have y2 : w8.cell? ⟨wr.heap.size, 2, none⟩ = some (.slice none 0 0) := nb.c 2 (by simp); have z2 : w8.frozen? ⟨wr.heap.size, 2, none⟩ = false := nb.f 2 (by simp); have NXX := hide (pxA (wr := wr) (.inl rfl) o8 t8 b8); clear nb) | (have nb := ((Blk.new (w := wr) [.slice none 0 0, .slice none 0 0, .slice none 0 0] 31).below (bel0d 1)).below b8; have y0 : w8.cell? ⟨wr.heap.size, 0, none⟩ = some (.slice none 0 0) := nb.c 0 (by simp); have z0 : w8.frozen? ⟨wr.heap.size, 0, none⟩ = false := nb.f 0 (by simp); have y1 : w8.cell? ⟨wr.heap.size, 1, none⟩ = some (.slice none 0 0) := nb.c 1 (by simp); have z1 : w8.frozen? ⟨wr.heap.size, 1, none⟩ = false := nb.f 1 (by simp); have y2 : w8.cell? ⟨wr.heap.size, 2, none⟩ = some (.slice none 0 0) := nb.c 2 (by simp); have z2 : w8.frozen? ⟨wr.heap.size, 2, none⟩ = false := nb.f 2 (by simp); have NXX := hide (pxA (wr := wr) (.inr rfl) o8 t8 b8); clear nb) | (have NXX := hide (pxB (wr := wr) (.inl rfl) o8 t8 b8)) | (have NXX := hide (pxB (wr := wr) (.inr rfl) o8 t8 b8))); clear o8 t8 b8))
        all_goals (
          go_wp2
          (try go_simp)
          go_meet
          case rel => exact ⟨_, p1, p2, p3, p4, q1, q2, q3, q4, rfl, rfl, rfl, unhide NXX⟩)
      case rest =>
        obtain ⟨P, p1, p2, p3, p4, q1, q2, q3, q4, rfl, rfl, rfl, nx⟩ := hcut
        have NX := hide nx
        obtain ⟨Y0, hY0⟩ : ∃ Y, Y = wr := ⟨_, rfl⟩
        rw [← hY0] at NX HS RB CD f0 f1
        clear hY0 nx CD u0 u1 u2 u0A u1A u2A f0A f1A
        have f0 : wc.cell? ⟨gp, k, none⟩ = some (.int .i64 ph) := ((unhide NX).bel.cell (block_lt_of_cell f0)).trans f0
        have f1 : wc.cell? ⟨gl, k, none⟩ = some (.slice x.a mA x.c) := ((unhide NX).bel.cell (block_lt_of_cell f1)).trans f1
        have SB := hide ((unhide HS).bel.trans ((unhide NX).bel.mono (unhide HS).bel.size))
        go_wp2_with fail
        refine (implInhibited_any (some ⟨g, 0, none⟩) n c rs ph wc ((unhide RB) wc (unhide NX).bel) (by omega)).mono ?_
        rintro e w9 ⟨qa, qc, rfl, oq, b9⟩
        have hib : inhB rs ph = true := by rw [inhB, unhide HW]; simp [inB, unhide HPHB]
        rw [hib]
        obtain ⟨mQ, hmQ⟩ : ∃ m, (inhL rs ph).length = m := ⟨_, rfl⟩
        rw [hmQ] at oq ⊢
        have bQ : mQ ≤ 1048576 := by rw [← hmQ]; exact inhL_small rs ph
        have OQ := hide oq.row
        have NX9 := hide ((unhide NX).below b9)
        have B9 := hide ((unhide SB).trans (b9.mono (unhide SB).size))
        clear oq b9 hib hmQ NX SB f0 f1
        go_wp2_with fail
        refine (implRulesOk_any (some ⟨g, 0, none⟩) n c rs w9 ((unhide RB) w9 (unhide NX9).bel) (by omega)).mono ?_
        rintro e Y ⟨rfl, b10⟩
        rw [unhide HW]
        have NY := hide ((unhide NX9).below b10)
        have OQY := hide ((unhide OQ).below b10)
        have BY := hide ((unhide B9).trans (b10.mono (unhide B9).size))
        have SY := hide ((unhide HS).below (unhide NY).bel)
        clear b10 NX9 OQ B9
        go_wp2_with fail
        go_loopw [13] (fun t wt => ∃ j : Nat, t = .int .i64 (j : Int) ∧ j ≤ mT ∧ Hid (Below Y.heap.size Y wt)) (fun t _ => mT - (intOf t).toNat)
        case atStart => exact ⟨0, rfl, Nat.zero_le _, hide (Below.refl _ _)⟩
        case round =>
          obtain ⟨j, rfl, hj, BJ⟩ := hrel
          by_cases hjl : j < mT
          · as_aux_lemma =>
              have j0 : (0 : Int) ≤ (j : Int) := by omega
              have j1 : (j : Int) < (mT : Int) := by omega
              obtain ⟨s, hs0⟩ : ∃ s, elAt T j = s := ⟨_, rfl⟩
              rcases ((unhide NY).t.row.below (unhide BJ)).open1 with ⟨h0, _⟩ | ⟨tb, toff, hpp, _, hc⟩
              · omega
              have t0 : wr.cell? ⟨tb, toff + j, none⟩ = some (.string s) := by have q := hc j hjl; rw [hs0] at q; exact q
              clear hc
              subst hpp
              have tq := (unhide HU).quiet j (by have := (unhide HM).2.2.2; omega)
              have tt := (unhide HU).taken j (by have := (unhide HM).2.2.2; omega)
              have th := (unhide HU).there j (by have := (unhide HM).2.2.2; omega)
              rw [hs0] at tq tt th
              obtain ⟨A, hA⟩ : ∃ A, hasB act s = A := ⟨_, rfl⟩
              obtain ⟨Z, hZ⟩ : ∃ A, hasB z2 s = A := ⟨_, rfl⟩
              rw [hA, hZ] at th
              have v2 : wr.cell? ⟨P, 2, none⟩ = some (.slice p3 mK q3) := ((unhide NY).b.below (unhide BJ)).c 2 (by simp)
              have u1 : wr.cell? ⟨Q, 1, none⟩ = some (.slice a2 l2 c2) := ((unhide SY).q.below (unhide BJ)).c 1 (by simp)
              have fx : wr.cell? ⟨gl, k, none⟩ = some (.slice x.a mA x.c) := (((unhide BY).trans ((unhide BJ).mono (unhide BY).size)).cell (block_lt_of_cell (unhide KXL))).trans (unhide KXL)
              obtain ⟨ι, fW, _, hcb, hcl⟩ := belClass wr
              have HCB := hide hcb
              have HCL := hide hcl
              have ft0 : ∀ z9, (fW z9).cell? ⟨tb, toff + j, none⟩ = some (.string s) := fun z9 => ((hcb z9).cell (block_lt_of_cell t0)).trans t0
              have fv2 : ∀ z9, (fW z9).cell? ⟨P, 2, none⟩ = some (.slice p3 mK q3) := fun z9 => ((hcb z9).cell (block_lt_of_cell v2)).trans v2
              have fu1 : ∀ z9, (fW z9).cell? ⟨Q, 1, none⟩ = some (.slice a2 l2 c2) := fun z9 => ((hcb z9).cell (block_lt_of_cell u1)).trans u1
              have fxx : ∀ z9, (fW z9).cell? ⟨gl, k, none⟩ = some (.slice x.a mA x.c) := fun z9 => ((hcb z9).cell (block_lt_of_cell fx)).trans fx
              have HC1 : Hid (∀ z9, Calls Try.prog 9 #[.slice qa mQ qc, .string s] (fW z9) fun e w' => e = .returned (.bool false) ∧ w' = fW z9) := hide (fun z9 => by
                have k := lawHas_any _ _ qc (inhL rs ph) s (fW z9) (((unhide OQY).below (unhide BJ)).below (hcb z9)) (by omega)
                rw [tq] at k
                exact k)
              have HC2 : Hid (∀ z9, Calls Try.prog 9 #[.slice p3 mK q3, .string s] (fW z9) fun e w' => e = .returned (.bool false) ∧ w' = fW z9) := hide (fun z9 => by
                have k := lawHas_any _ _ q3 K s (fW z9) (((unhide NY).o.o3.row.below (unhide BJ)).below (hcb z9)) (by omega)
                rw [tt] at k
                exact k)
              have HC3 : Hid (∀ z9, Calls Try.prog 9 #[.slice x.a mA x.c, .string s] (fW z9) fun e w' => e = .returned (.bool A) ∧ w' = fW z9) := hide (fun z9 => by
                have k := lawHas_any _ _ x.c act s (fW z9) (((unhide HXR).below ((unhide BY).trans ((unhide BJ).mono (unhide BY).size))).below (hcb z9)) (by omega)
                rw [hA] at k
                exact k)
              have HC4 : Hid (∀ z9, Calls Try.prog 9 #[.slice a2 l2 c2, .string s] (fW z9) fun e w' => e = .returned (.bool Z) ∧ w' = fW z9) := hide (fun z9 => by
                have k := lawHas_any _ _ c2 z2 s (fW z9) (((unhide SY).i.r2.below (unhide BJ)).below (hcb z9)) (by omega)
                rw [hZ] at k
                exact k)
              clear tq tt hA hZ t0 v2 u1 fx hs0
              go_wp2_with fail
              obtain ⟨x0, hx0⟩ := hcl wr (Below.refl _ _)
              rw [hx0]
              clear hx0 hcb hcl
              cases A
              · have hz : Z = true := by simpa using th
                subst hz
                clear th
                refine wp_region_bel (fun w' h => (unhide HCL) w' ((unhide HCB _).trans (h.mono (unhide HCB _).size))) (by kernel_rfl) (by kernel_rfl) ?_
                (repeat (go_big_quiet_step ((go_at_call 9; first | (with_reducible exact belS ((unhide HC1) _)) | (with_reducible exact belS ((unhide HC2) _)) | (with_reducible exact belS ((unhide HC3) _)) | (with_reducible exact belS ((unhide HC4) _))))))
                refine wpQuiet_nil ?_
                rintro _ ⟨y, rfl⟩
                go_wp2_with fail
                go_roundw
                case rel => exact ⟨j + 1, by go_num, by omega, hide ((unhide BJ).trans ((unhide HCB y).mono (unhide BJ).size))⟩
                case measure => simp [intOf]; omega
              · clear th
                refine wp_region_bel (fun w' h => (unhide HCL) w' ((unhide HCB _).trans (h.mono (unhide HCB _).size))) (by kernel_rfl) (by kernel_rfl) ?_
                (repeat (go_big_quiet_step ((go_at_call 9; first | (with_reducible exact belS ((unhide HC1) _)) | (with_reducible exact belS ((unhide HC2) _)) | (with_reducible exact belS ((unhide HC3) _)) | (with_reducible exact belS ((unhide HC4) _))))))
                refine wpQuiet_nil ?_
                rintro _ ⟨y, rfl⟩
                go_wp2_with fail
                go_roundw
                case rel => exact ⟨j + 1, by go_num, by omega, hide ((unhide BJ).trans ((unhide HCB y).mono (unhide BJ).size))⟩
                case measure => simp [intOf]; omega
          · have j1 : ¬ (j : Int) < (mT : Int) := by omega
            go_wp2_with fail
            clear hjl hj j1
            go_loopw [14] (fun t wt => ∃ j : Nat, t = .int .i64 (j : Int) ∧ j ≤ l2 ∧ Hid (Below Y.heap.size Y wt)) (fun t _ => l2 - (intOf t).toNat)
            case atStart => exact ⟨0, rfl, Nat.zero_le _, BJ⟩
            case round =>
              obtain ⟨j, rfl, hj, BJ⟩ := hrel
              have u1 : wr.cell? ⟨Q, 1, none⟩ = some (.slice a2 l2 c2) := ((unhide SY).q.below (unhide BJ)).c 1 (by simp)
              by_cases hjl : j < l2
              · as_aux_lemma =>
                  have j0 : (0 : Int) ≤ (j : Int) := by omega
                  have j1 : (j : Int) < (l2 : Int) := by omega
                  obtain ⟨s, hs0⟩ : ∃ s, elAt z2 j = s := ⟨_, rfl⟩
                  rcases (((unhide SY).i.r2.below (unhide BJ))).open1 with ⟨h0, _⟩ | ⟨tb, toff, hpp, _, hc⟩
                  · omega
                  have t0 : wr.cell? ⟨tb, toff + j, none⟩ = some (.string s) := by have q := hc j hjl; rw [hs0] at q; exact q
                  clear hc
                  subst hpp
                  have tl := (unhide HU).latch j (by have := unhide HL2; omega)
                  rw [hs0] at tl
                  have v1 : wr.cell? ⟨P, 1, none⟩ = some (.slice p2 mL q2) := ((unhide NY).b.below (unhide BJ)).c 1 (by simp)
                  obtain ⟨ι, fW, _, hcb, hcl⟩ := belClass wr
                  have HCB := hide hcb
                  have HCL := hide hcl
                  have ft0 : ∀ z9, (fW z9).cell? ⟨tb, toff + j, none⟩ = some (.string s) := fun z9 => ((hcb z9).cell (block_lt_of_cell t0)).trans t0
                  have fv1 : ∀ z9, (fW z9).cell? ⟨P, 1, none⟩ = some (.slice p2 mL q2) := fun z9 => ((hcb z9).cell (block_lt_of_cell v1)).trans v1
                  have fu1 : ∀ z9, (fW z9).cell? ⟨Q, 1, none⟩ = some (.slice (some ⟨tb, toff, none⟩) l2 c2) := fun z9 => ((hcb z9).cell (block_lt_of_cell u1)).trans u1
                  have HC1 : Hid (∀ z9, Calls Try.prog 9 #[.slice p2 mL q2, .string s] (fW z9) fun e w' => e = .returned (.bool true) ∧ w' = fW z9) := hide (fun z9 => by
                    have k := lawHas_any _ _ q2 L s (fW z9) (((unhide NY).o.o2.row.below (unhide BJ)).below (hcb z9)) (by omega)
                    rw [tl] at k
                    exact k)
                  clear tl t0 v1 hs0
                  go_wp2_with fail
                  clear u1
                  obtain ⟨x0, hx0⟩ := hcl wr (Below.refl _ _)
                  rw [hx0]
                  clear hx0 hcb hcl
                  refine wp_region_bel (fun w' h => (unhide HCL) w' ((unhide HCB _).trans (h.mono (unhide HCB _).size))) (by kernel_rfl) (by kernel_rfl) ?_
                  (repeat (go_big_quiet_step ((go_at_call 9; first | (with_reducible exact belS ((unhide HC1) _))))))
                  refine wpQuiet_nil ?_
                  rintro _ ⟨y, rfl⟩
                  go_wp2_with fail
                  go_roundw
                  case rel => exact ⟨j + 1, by go_num, by omega, hide ((unhide BJ).trans ((unhide HCB y).mono (unhide BJ).size))⟩
                  case measure => simp [intOf]; omega
              · have j1 : ¬ (j : Int) < (l2 : Int) := by omega
                go_wp2_with fail
                clear hjl hj j1
                go_loopw [15] (fun t wt => ∃ j : Nat, t = .int .i64 (j : Int) ∧ j ≤ l3 ∧ Hid (Below Y.heap.size Y wt)) (fun t _ => l3 - (intOf t).toNat)
                case atStart => exact ⟨0, rfl, Nat.zero_le _, BJ⟩
                case round =>
                  obtain ⟨j, rfl, hj, BJ⟩ := hrel
                  have u2 : wr.cell? ⟨Q, 2, none⟩ = some (.slice a3 l3 c3) := ((unhide SY).q.below (unhide BJ)).c 2 (by simp)
                  by_cases hjl : j < l3
                  · as_aux_lemma =>
                      have j0 : (0 : Int) ≤ (j : Int) := by omega
                      have j1 : (j : Int) < (l3 : Int) := by omega
                      obtain ⟨s, hs0⟩ : ∃ s, elAt z3 j = s := ⟨_, rfl⟩
                      rcases (((unhide SY).i.r3.below (unhide BJ))).open1 with ⟨h0, _⟩ | ⟨tb, toff, hpp, _, hc⟩
                      · omega
                      have t0 : wr.cell? ⟨tb, toff + j, none⟩ = some (.string s) := by have q := hc j hjl; rw [hs0] at q; exact q
                      clear hc
                      subst hpp
                      have tk := (unhide HU).keep j (by have := unhide HL3; omega)
                      rw [hs0] at tk
                      obtain ⟨Bv, hBv⟩ : ∃ A, hasB act s = A := ⟨_, rfl⟩
                      rw [hBv] at tk
                      have hq : (Bv != Bv) = false := by simp
                      have v2 : wr.cell? ⟨P, 2, none⟩ = some (.slice p3 mK q3) := ((unhide NY).b.below (unhide BJ)).c 2 (by simp)
                      have fx : wr.cell? ⟨gl, k, none⟩ = some (.slice x.a mA x.c) := (((unhide BY).trans ((unhide BJ).mono (unhide BY).size)).cell (block_lt_of_cell (unhide KXL))).trans (unhide KXL)
                      obtain ⟨ι, fW, _, hcb, hcl⟩ := belClass wr
                      have HCB := hide hcb
                      have HCL := hide hcl
                      have ft0 : ∀ z9, (fW z9).cell? ⟨tb, toff + j, none⟩ = some (.string s) := fun z9 => ((hcb z9).cell (block_lt_of_cell t0)).trans t0
                      have fv2 : ∀ z9, (fW z9).cell? ⟨P, 2, none⟩ = some (.slice p3 mK q3) := fun z9 => ((hcb z9).cell (block_lt_of_cell v2)).trans v2
                      have fu2 : ∀ z9, (fW z9).cell? ⟨Q, 2, none⟩ = some (.slice (some ⟨tb, toff, none⟩) l3 c3) := fun z9 => ((hcb z9).cell (block_lt_of_cell u2)).trans u2
                      have fxx : ∀ z9, (fW z9).cell? ⟨gl, k, none⟩ = some (.slice x.a mA x.c) := fun z9 => ((hcb z9).cell (block_lt_of_cell fx)).trans fx
                      have HC1 : Hid (∀ z9, Calls Try.prog 9 #[.slice p3 mK q3, .string s] (fW z9) fun e w' => e = .returned (.bool Bv) ∧ w' = fW z9) := hide (fun z9 => by
                        have k := lawHas_any _ _ q3 K s (fW z9) (((unhide NY).o.o3.row.below (unhide BJ)).below (hcb z9)) (by omega)
                        rw [tk] at k
                        exact k)
                      have HC2 : Hid (∀ z9, Calls Try.prog 9 #[.slice x.a mA x.c, .string s] (fW z9) fun e w' => e = .returned (.bool Bv) ∧ w' = fW z9) := hide (fun z9 => by
                        have k := lawHas_any _ _ x.c act s (fW z9) (((unhide HXR).below ((unhide BY).trans ((unhide BJ).mono (unhide BY).size))).below (hcb z9)) (by omega)
                        rw [hBv] at k
                        exact k)
                      clear tk hBv t0 v2 fx hs0
                      go_wp2_with fail
                      clear u2
                      obtain ⟨x0, hx0⟩ := hcl wr (Below.refl _ _)
                      rw [hx0]
                      clear hx0 hcb hcl
                      refine wp_region_bel (fun w' h => (unhide HCL) w' ((unhide HCB _).trans (h.mono (unhide HCB _).size))) (by kernel_rfl) (by kernel_rfl) ?_
                      (repeat (go_big_quiet_step ((go_at_call 9; first | (with_reducible exact belS ((unhide HC1) _)) | (with_reducible exact belS ((unhide HC2) _))))))
                      refine wpQuiet_nil ?_
                      rintro _ ⟨y, rfl⟩
                      go_wp2_with fail
                      go_roundw
                      case rel => exact ⟨j + 1, by go_num, by omega, hide ((unhide BJ).trans ((unhide HCB y).mono (unhide BJ).size))⟩
                      case measure => simp [intOf]; omega
                  · have j1 : ¬ (j : Int) < (l3 : Int) := by omega
                    go_wp2_with fail
                    clear hjl hj j1
                    go_wp2_with fail
                    refine (implLoudest_any (some ⟨g, 0, none⟩) n c rs p4 mT q4 T wr ((unhide RB) wr ((unhide NY).bel.trans ((unhide BJ).mono (unhide NY).bel.size))) ((unhide NY).t.row.below (unhide BJ)) (fun i hi => (unhide HU).size i (by have := (unhide HM).2.2.2; omega))).mono ?_
                    rintro e Z ⟨rfl, bz⟩
                    rw [(unhide HU).lo]
                    obtain ⟨X, hX⟩ : ∃ X, loR rs T = X := ⟨_, rfl⟩
                    rw [hX]
                    have hld : decide (0 < X) = decide (0 < (mT : Int)) := by rw [← hX, ← (unhide HM).2.2.2]; exact (unhide HU).loud
                    have NZ := hide ((unhide NY).below ((unhide BJ).trans (bz.mono (unhide BJ).size)))
                    have SZ := hide ((unhide SY).below ((unhide BJ).trans (bz.mono (unhide BJ).size)))
                    clear hX bz
                    have KPZ := hide (unhide NZ).b
                    have KQZ := hide (unhide SZ).q
                    by_cases hT0 : 0 < mT
                    · have t1 : (0 : Int) < (mT : Int) := by omega
                      have x1 : 0 < X := by rw [decide_eq_true t1] at hld; exact of_decide_eq_true hld
                      clear hld
                      go_upto_region 31 with (first
                        | ((with_reducible show wpList _ _ _ (⟨_, .load 31 _, _, _, _, none⟩ :: _) _ _); refine at_loadAgg (vs := [.slice p1 mA q1, .slice p2 mL q2, .slice p3 mK q3]) Try.isAgg31 Try.sizeOf31 rfl (unhide KPZ) ?_)
                        | ((with_reducible show wpList _ _ _ (⟨none, .store 31 _ _, _, _, _, none⟩ :: _) _ _); refine at_storeAgg (us := [.slice a1 l1 c1, .slice a2 l2 c2, .slice a3 l3 c3]) (vs := [.slice p1 mA q1, .slice p2 mL q2, .slice p3 mK q3]) Try.sizeOf31 rfl rfl (unhide KQZ) rfl (fun v hv => by simp at hv; rcases hv with rfl | rfl | rfl <;> rfl) ?_; intro wz k9 g9; have K9 := hide k9; have G9 := hide g9; clear k9 g9))
                      obtain ⟨sn, ot⟩ := (unhide NZ).now (unhide HS) (unhide K9) (unhide G9)
                      have SN := hide sn
                      have OT := hide ot
                      have HMT := (unhide HM).2.2.2
                      rcases ot.form with ⟨_, e0⟩ | ⟨tb, tc, hv, _⟩
                      · rw [e0] at HMT; simp at HMT; omega
                      simp only [Value.slice.injEq] at hv
                      have hpp := hv.1
                      clear hv
                      obtain ⟨s, hs0⟩ : ∃ s, elAt T 0 = s := ⟨_, rfl⟩
                      subst hpp
                      have t0 : wz.cell? ⟨tb, 0, none⟩ = some (.string s) := by
                        have q := ((unhide OT).here HMT 0 hT0 0 (by omega)).1
                        have q : wz.cell? ⟨tb, 0, none⟩ = some (.string (elAt T 0)) := q
                        rw [hs0] at q
                        exact q
                      have tk := (unhide HU).take (by omega)
                      have tsz := (unhide HU).size 0 (by omega)
                      rw [hs0] at tk tsz
                      obtain ⟨hb1, hb2, hb3, hb4⟩ := tk
                      obtain ⟨L2, hL2⟩ : ∃ l, tk2 rs act L K s = l := ⟨_, rfl⟩
                      obtain ⟨K2, hK2⟩ : ∃ l, tk3 rs act L K s = l := ⟨_, rfl⟩
                      rw [hL2] at hb2 hb4
                      rw [hK2] at hb3 hb4
                      obtain ⟨nL, hnL⟩ : ∃ m, L2.length = m := ⟨_, rfl⟩
                      obtain ⟨nK, hnK⟩ : ∃ m, K2.length = m := ⟨_, rfl⟩
                      obtain ⟨_, bl2, bl3⟩ := hb4.len (unhide HW)
                      have bnL : nL ≤ 30 := by omega
                      have bnK : nK ≤ 30 := by omega
                      have CT : Hid (∀ V, Below wz.heap.size wz V → Calls Try.prog 11 #[.slice (some ⟨g, 0, none⟩) n c, .agg #[.slice p1 mA q1, .slice p2 mL q2, .slice p3 mK q3], .string s] V fun e w' => ∃ (r1 : Option Addr) (e1 : Nat) (r2 : Option Addr) (e2 : Nat) (r3 : Option Addr) (e3 : Nat), e = .returned (.tuple #[.agg #[.slice r1 mA e1, .slice r2 nL e2, .slice r3 nK e3], .bool true]) ∧ PnOwn w' V.heap.size r1 r2 r3 mA e1 nL e2 nK e3 act L2 K2 ∧ Below V.heap.size V w') := hide (fun V bV => by
                        have hm := unhide HM
                        have pn := (unhide HU).pan
                        have q := implTake14_any (some ⟨g, 0, none⟩) n c rs p1 p2 p3 mA q1 mL q2 mK q3 act L K s V ((unhide HR).below ((unhide SN).bel.trans (bV.mono (unhide SN).bel.size))) ((unhide SN).i.below bV) (by omega) (by omega) (by omega) (fun i hi => nm_size (unhide HW) pn.a (by omega)) (fun i hi => nm_size (unhide HW) pn.l (by omega)) (fun i hi => nm_size (unhide HW) pn.t (by omega)) tsz
                        rw [hb1, hL2, hK2, hnL, hnK, hm.1] at q
                        exact q)
                      have HB2 := hide hb2
                      have HB3 := hide hb3
                      have HB4 := hide hb4
                      have u0 : wz.cell? ⟨Q, 0, none⟩ = some (.slice p1 mA q1) := (unhide SN).q.c 0 (by simp)
                      have u1 : wz.cell? ⟨Q, 1, none⟩ = some (.slice p2 mL q2) := (unhide SN).q.c 1 (by simp)
                      have u2 : wz.cell? ⟨Q, 2, none⟩ = some (.slice p3 mK q3) := (unhide SN).q.c 2 (by simp)
                      have u0A : ∀ o, (wz.alloc o).cell? ⟨Q, 0, none⟩ = some (.slice p1 mA q1) := fun o => ((bel1 (w := wz) o).cell (block_lt_of_cell u0)).trans u0
                      have u1A : ∀ o, (wz.alloc o).cell? ⟨Q, 1, none⟩ = some (.slice p2 mL q2) := fun o => ((bel1 (w := wz) o).cell (block_lt_of_cell u1)).trans u1
                      have u2A : ∀ o, (wz.alloc o).cell? ⟨Q, 2, none⟩ = some (.slice p3 mK q3) := fun o => ((bel1 (w := wz) o).cell (block_lt_of_cell u2)).trans u2
                      have t0A : ∀ o, (wz.alloc o).cell? ⟨tb, 0, none⟩ = some (.string s) := fun o => ((bel1 (w := wz) o).cell (block_lt_of_cell t0)).trans t0
                      clear sn ot hs0 tsz hb1 hb2 hb3 hb4 hL2 hK2 hnL hnK bl2 bl3 HMT K9 G9
                      go_wp2_with fail
                      go_cut [18, 19] from 177 to 186 (fun s18 s19 wc => WnD wz mA nL nK act L2 K2 s18 s19 wc)
                      case first =>
                        go_region_law ((fail_if_success have := D1); go_simp; go_wp2_with (go_at_call 11; refine ((unhide CT) _ (by first | exact Below.refl _ _ | exact bel0d' 1 | exact bel1 _ | exact (bel1 (w := wz) _).trans (bel0d' 1))).mono ?_; rintro e w8 ⟨r1, e1, r2, e2, r3, e3, rfl, o8, b8⟩; have D1 := trivial; (first | (have nb := (Blk.new (w := wz) [.slice none 0 0, .slice none 0 0, .slice none 0 0] 31).below b8; have y0 : w8.cell? ⟨wz.heap.size, 0, none⟩ = some (.slice none 0 0) := nb.c 0 (by simp); have z0 : w8.frozen? ⟨wz.heap.size, 0, none⟩ = false := nb.f 0 (by simp); have y1 : w8.cell? ⟨wz.heap.size, 1, none⟩ = some (.slice none 0 0) := nb.c 1 (by simp); have z1 : w8.frozen? ⟨wz.heap.size, 1, none⟩ = false := nb.f 1 (by simp); have y2 : w8.cell? ⟨wz.heap.size, 2, none⟩ = some (.slice none 0 0) := nb.c 2 (by simp); have z2 : w8.frozen? ⟨wz.heap.size, 2, none⟩ = false := nb.f 2 (by simp); have NXX := hide (pxA (wr := wz) (.inl rfl) o8 (ownE_nil0 _ _ _) b8); clear nb) | (have nb := ((Blk.new (w := wz) [.slice none 0 0, .slice none 0 0, .slice none 0 0] 31).below (bel0d 1)).below b8; have y0 : w8.cell? ⟨wz.heap.size, 0, none⟩ = some (.slice none 0 0) := nb.c 0 (by simp); have z0 : w8.frozen? ⟨wz.heap.size, 0, none⟩ = false := nb.f 0 (by simp); have y1 : w8.cell? ⟨wz.heap.size, 1, none⟩ = some (.slice none 0 0) := nb.c 1 (by simp); have z1 : w8.frozen? ⟨wz.heap.size, 1, none⟩ = false := nb.f 1 (by simp); have y2 : w8.cell? ⟨wz.heap.size, 2, none⟩ = some (.slice none 0 0) := nb.c 2 (by simp); have z2 : w8.frozen? ⟨wz.heap.size, 2, none⟩ = false := nb.f 2 (by simp); have NXX := hide (pxA (wr := wz) (.inr rfl) o8 (ownE_nil0 _ _ _) b8); clear nb) | (have NXX := hide (pxB (wr := wz) (.inl rfl) o8 (ownE_nil0 _ _ _) b8)) | (have NXX := hide (pxB (wr := wz) (.inr rfl) o8 (ownE_nil0 _ _ _) b8))); clear o8 b8))
                        all_goals (
                          go_wp2
                          (try go_simp)
                          go_meet
                          case rel => exact ⟨_, r1, r2, r3, e1, e2, e3, rfl, rfl, unhide NXX⟩)
                      case rest =>
                        as_aux_lemma =>
                          obtain ⟨R, r1, r2, r3, e1, e2, e3, rfl, rfl, nx2⟩ := hcut
                          have t0 : wc.cell? ⟨tb, 0, none⟩ = some (.string s) := (nx2.bel.cell (block_lt_of_cell t0)).trans t0
                          have u0 : wc.cell? ⟨Q, 0, none⟩ = some (.slice p1 mA q1) := (nx2.bel.cell (block_lt_of_cell u0)).trans u0
                          have w1' : wc.cell? ⟨R, 1, none⟩ = some (.slice r2 nL e2) := nx2.b.c 1 (by simp)
                          have w2' : wc.cell? ⟨R, 2, none⟩ = some (.slice r3 nK e3) := nx2.b.c 2 (by simp)
                          obtain ⟨Bv, hBv⟩ : ∃ A, hasB act s = A := ⟨_, rfl⟩
                          have hb2 := unhide HB2
                          have hb3 := unhide HB3
                          rw [hBv] at hb3
                          have hq : (Bv != Bv) = false := by simp
                          obtain ⟨ι, fW, _, hcb, hcl⟩ := belClass wc
                          have HCB := hide hcb
                          have HCL := hide hcl
                          have ft0 : ∀ z9, (fW z9).cell? ⟨tb, 0, none⟩ = some (.string s) := fun z9 => ((hcb z9).cell (block_lt_of_cell t0)).trans t0
                          have fu0 : ∀ z9, (fW z9).cell? ⟨Q, 0, none⟩ = some (.slice p1 mA q1) := fun z9 => ((hcb z9).cell (block_lt_of_cell u0)).trans u0
                          have fr1 : ∀ z9, (fW z9).cell? ⟨R, 1, none⟩ = some (.slice r2 nL e2) := fun z9 => ((hcb z9).cell (block_lt_of_cell w1')).trans w1'
                          have fr2 : ∀ z9, (fW z9).cell? ⟨R, 2, none⟩ = some (.slice r3 nK e3) := fun z9 => ((hcb z9).cell (block_lt_of_cell w2')).trans w2'
                          have HC1 : Hid (∀ z9, Calls Try.prog 9 #[.slice r2 nL e2, .string s] (fW z9) fun e w' => e = .returned (.bool false) ∧ w' = fW z9) := hide (fun z9 => by
                            have k := lawHas_any _ _ e2 L2 s (fW z9) (nx2.o.o2.row.below (hcb z9)) (by omega)
                            rw [hb2] at k
                            exact k)
                          have HC2 : Hid (∀ z9, Calls Try.prog 9 #[.slice r3 nK e3, .string s] (fW z9) fun e w' => e = .returned (.bool Bv) ∧ w' = fW z9) := hide (fun z9 => by
                            have k := lawHas_any _ _ e3 K2 s (fW z9) (nx2.o.o3.row.below (hcb z9)) (by omega)
                            rw [hb3] at k
                            exact k)
                          have HC3 : Hid (∀ z9, Calls Try.prog 9 #[.slice p1 mA q1, .string s] (fW z9) fun e w' => e = .returned (.bool Bv) ∧ w' = fW z9) := hide (fun z9 => by
                            have k := lawHas_any _ _ q1 act s (fW z9) (((unhide SN).i.r1.below nx2.bel).below (hcb z9)) (by omega)
                            rw [hBv] at k
                            exact k)
                          have NX2 := hide nx2
                          clear hb2 hb3 hBv t0 u0 w1' w2' nx2 CT u1 u2 u0A u1A u2A t0A
                          go_wp2_with fail
                          obtain ⟨x0, hx0⟩ := hcl wc (Below.refl _ _)
                          rw [hx0]
                          clear hx0 hcb hcl
                          refine wp_region_bel (fun w' h => (unhide HCL) w' ((unhide HCB _).trans (h.mono (unhide HCB _).size))) (by kernel_rfl) (by kernel_rfl) ?_
                          (repeat (go_big_quiet_step ((go_at_call 9; first | (with_reducible exact belS ((unhide HC1) _)) | (with_reducible exact belS ((unhide HC2) _)) | (with_reducible exact belS ((unhide HC3) _))))))
                          refine wpQuiet_nil ?_
                          rintro _ ⟨y, rfl⟩
                          have NXF := hide ((unhide NX2).below (unhide HCB y))
                          have KR := hide (unhide NXF).b
                          have KQ2 := hide (((unhide SN).q.below (unhide NX2).bel).below (unhide HCB y))
                          go_wp2_with (first
                            | ((with_reducible show wpList _ _ _ (⟨_, .load 31 _, _, _, _, none⟩ :: _) _ _); refine at_loadAgg (vs := [.slice r1 mA e1, .slice r2 nL e2, .slice r3 nK e3]) Try.isAgg31 Try.sizeOf31 rfl (unhide KR) ?_)
                            | ((with_reducible show wpList _ _ _ (⟨none, .store 31 _ _, _, _, _, none⟩ :: _) _ _); refine at_storeAgg (us := [.slice p1 mA q1, .slice p2 mL q2, .slice p3 mK q3]) (vs := [.slice r1 mA e1, .slice r2 nL e2, .slice r3 nK e3]) Try.sizeOf31 rfl rfl (unhide KQ2) rfl (fun v hv => by simp at hv; rcases hv with rfl | rfl | rfl <;> rfl) ?_; intro wz k9 g9; have K9 := hide k9; have G9 := hide g9; clear k9 g9))
                          obtain ⟨sn2, _⟩ := (unhide NXF).now (unhide SN) (unhide K9) (unhide G9)
                          have SN2 := hide sn2
                          clear sn2
                          go_roundw
                          case rel => exact ⟨k + 1, r1, r2, r3, mA, e1, nL, e2, nK, e3, act, L2, K2, by go_num, by omega, HB4, SN2⟩
                          case measure => simp [intOf]; omega
                    · have t1 : ¬ (0 : Int) < (mT : Int) := by omega
                      have x1 : ¬ 0 < X := by rw [decide_eq_false t1] at hld; exact of_decide_eq_false hld
                      clear hld
                      go_upto_region 31 with (first
                        | ((with_reducible show wpList _ _ _ (⟨_, .load 31 _, _, _, _, none⟩ :: _) _ _); refine at_loadAgg (vs := [.slice p1 mA q1, .slice p2 mL q2, .slice p3 mK q3]) Try.isAgg31 Try.sizeOf31 rfl (unhide KPZ) ?_)
                        | ((with_reducible show wpList _ _ _ (⟨none, .store 31 _ _, _, _, _, none⟩ :: _) _ _); refine at_storeAgg (us := [.slice a1 l1 c1, .slice a2 l2 c2, .slice a3 l3 c3]) (vs := [.slice p1 mA q1, .slice p2 mL q2, .slice p3 mK q3]) Try.sizeOf31 rfl rfl (unhide KQZ) rfl (fun v hv => by simp at hv; rcases hv with rfl | rfl | rfl <;> rfl) ?_; intro wz k9 g9; have K9 := hide k9; have G9 := hide g9; clear k9 g9))
                      obtain ⟨sn, ot⟩ := (unhide NZ).now (unhide HS) (unhide K9) (unhide G9)
                      have SN := hide sn
                      clear sn ot K9 G9
                      go_wp2_with fail
                      go_roundw
                      case rel => exact ⟨k + 1, p1, p2, p3, mA, q1, mL, q2, mK, q3, act, L, K, by go_num, by omega, hide (unhide HU).pan, SN⟩
                      case measure => simp [intOf]; omega
    · have hkN : k = N := by omega
      have i1 : ¬ (k : Int) < (N : Int) := by omega
      have tb := wd_nobody (unhide HP) (unhide HNO)
      have KQ := hide (unhide HS).q
      have CN : Hid (Calls Try.prog 11 #[.slice (some ⟨g, 0, none⟩) n c, .agg #[.slice a1 l1 c1, .slice a2 l2 c2, .slice a3 l3 c3], .string nobody] wr fun e w' => ∃ (p1 : Option Addr) (q1 : Nat) (p2 : Option Addr) (q2 : Nat) (p3 : Option Addr) (q3 : Nat), e = .returned (.tuple #[.agg #[.slice p1 z1.length q1, .slice p2 z2.length q2, .slice p3 z3.length q3], .bool false]) ∧ Below wr.heap.size wr w') := hide (by
        have hl1 := unhide HL1
        have hl2 := unhide HL2
        have hl3 := unhide HL3
        have q := implTake14_any (some ⟨g, 0, none⟩) n c rs a1 a2 a3 l1 c1 l2 c2 l3 c3 z1 z2 z3 nobody wr ((unhide RB) _ (Below.refl _ _)) (unhide HS).i (by omega) (by omega) (by omega) (fun i hi => nm_size (unhide HW) (unhide HP).a (by omega)) (fun i hi => nm_size (unhide HW) (unhide HP).l (by omega)) (fun i hi => nm_size (unhide HW) (unhide HP).t (by omega)) (by decide)
        rw [tb, (tk_no tb).1, (tk_no tb).2] at q
        exact q.mono fun e w' ⟨p1, q1, p2, q2, p3, q3, he, _, b⟩ => ⟨p1, q1, p2, q2, p3, q3, he, b⟩)
      clear hkN tb
      go_wp2_with ((with_reducible show wpList _ _ _ (⟨_, .load 31 _, _, _, _, none⟩ :: _) _ _); refine at_loadAgg (vs := [.slice a1 l1 c1, .slice a2 l2 c2, .slice a3 l3 c3]) Try.isAgg31 Try.sizeOf31 rfl (unhide KQ) ?_)
      refine (unhide CN).mono ?_
      rintro e w9 ⟨p1, q1, p2, q2, p3, q3, rfl, b9⟩
      have BZ := hide ((unhide HB).trans (((unhide HS).bel.trans (b9.mono (unhide HS).bel.size)).mono (unhide HB).size))
      clear b9 CN
      go_wp2_with fail
      go_ret
      exact ⟨rfl, (unhide BZ).alloc (unhide BZ).size _⟩

theorem lawFnWarned (a : Option Addr) (len cap : Nat) (w : World) (hb : Bytes w a len) (hin : ∀ b off, a = some ⟨b, off, none⟩ → b < w.heap.size) :
    Calls Try.prog 3 #[.slice a len cap] w fun e w' => e = .returned (.bool true) ∧ Below w.heap.size w w' := by
  by_cases h : (1048576 : Int) < len
  · exact lawFnWarned_big a len cap w h
  · exact lawFnWarned_small a len cap w h hb hin

end Go.Proofs.Ytfehfocfoegbdaa
