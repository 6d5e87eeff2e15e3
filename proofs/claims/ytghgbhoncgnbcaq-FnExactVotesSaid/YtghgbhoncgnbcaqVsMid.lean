/-
  What the model's Vote answers: as the plain functions. At lists of at most 1048576 that are not nil; nothing that was there is written.
-/
import Derived.Test.YtghgbhoncgnbcaqVsPure
import Derived.Test.YtghgbhoncgnbcaqBel
import Derived.Test.YtghgbhoncgnbcaqThen
namespace Go.Proofs.Ytghgbhoncgnbcaq
open Go.RowKit

set_option maxRecDepth 20000 in
set_option maxHeartbeats 3000000 in
theorem specVote_mid (n h : Int) (p1 p2 : Addr) (a3 : Option Addr) (l1 c1 l2 c2 l3 c3 : Nat) (bs : List Bool) (os zs : List Int) (w : World) (hr : VoIn w (some p1) (some p2) l1 l2 bs os) (hz : Row w a3 l3 zs) (h1 : l1 ≤ 1048576) (h2 : l2 ≤ 1048576) (q1 : seenB n h bs os zs = true) (hmid : 3 ≤ (heardS bs zs).length) :
    Calls Try.prog 18 #[.agg #[.int .i64 n, .int .i64 h, .slice (some p1) l1 c1, .slice (some p2) l2 c2], .slice a3 l3 c3] w fun x w' => ∃ g1 d1 g2 d2 : Nat, x = .returned (.tuple #[.agg #[.int .i64 n, .int .i64 h, .slice (some ⟨g1, 0, none⟩) (votOut n h bs os zs).length d1, .slice (some ⟨g2, 0, none⟩) (votOdd n h bs os zs).length d2], .int .i64 (votX n h bs os zs), .int .i64 (votC n h bs os zs)]) ∧ VoOwn w' w.heap.size (some ⟨g1, 0, none⟩) (some ⟨g2, 0, none⟩) (votOut n h bs os zs).length d1 (votOdd n h bs os zs).length d2 (votOut n h bs os zs) (votOdd n h bs os zs) ∧ Below w.heap.size w w' := by
  obtain ⟨W, hW⟩ : ∃ W, W = (w.alloc (Obj.cells #[.int .i64 n, .int .i64 h, .slice (some p1) l1 c1, .slice (some p2) l2 c2] 28)).alloc (Obj.cells #[.int .i64 0, .int .i64 0, .slice none 0 0, .slice none 0 0] 28) := ⟨_, rfl⟩
  have KP : Hid (Blk W w.heap.size [.int .i64 n, .int .i64 h, .slice (some p1) l1 c1, .slice (some p2) l2 c2]) := hide (by rw [hW]; exact (Blk.new (w := w) [.int .i64 n, .int .i64 h, .slice (some p1) l1 c1, .slice (some p2) l2 c2] 28).alloc _)
  have KR : Hid (Blk W (w.heap.size + 1) [.int .i64 0, .int .i64 0, .slice none 0 0, .slice none 0 0]) := hide (by
    rw [hW]
    have := Blk.new (w := w.alloc (Obj.cells #[.int .i64 n, .int .i64 h, .slice (some p1) l1 c1, .slice (some p2) l2 c2] 28)) [.int .i64 0, .int .i64 0, .slice none 0 0, .slice none 0 0] 28
    simpa using this)
  have HB : Hid (Below w.heap.size w W) := hide (by rw [hW]; exact bel2 _ _)
  have hsz : w.heap.size + 1 + 1 ≤ W.heap.size := by rw [hW]; simp
  have R := hide (hr.below (unhide HB))
  have RZ := hide (hz.below (unhide HB))
  have Z1 := hide hr.r1.len_eq
  have Z2 := hide hr.r2.len_eq
  have Z3 := hide hz.len_eq
  have HR0 := hide hr
  have HZ0 := hide hz
  have H1 := hide h1
  have H2 := hide h2
  have HW := hide hW
  clear hr hz hW h1 h2
  go_enter Try.func18, Try.ntmps18
  go_wp2_with fail
  rw [← unhide HW]
  clear HW
  refine (l8Copy_any n h p1 p2 l1 c1 l2 c2 bs os W (unhide R) (unhide H1) (unhide H2)).mono ?_
  rintro x v1 ⟨g1, d1, g2, d2, rfl, vo, b⟩
  have VL := hide vo.lies
  have VO := hide (vo.mono (base' := w.heap.size) (by omega))
  have VO2 := hide (vo.mono (base' := w.heap.size + 1 + 1) (by omega))
  have HB := hide ((unhide HB).trans (b.mono (unhide HB).size))
  have R := hide ((unhide R).below b)
  have RZ := hide ((unhide RZ).below b)
  have KP := hide ((unhide KP).below b)
  have KR := hide ((unhide KR).below b)
  have sz1 := b.size
  clear vo b
  obtain ⟨V, hV⟩ : ∃ V, V = v1.alloc (Obj.cells #[.int .i64 n, .int .i64 h, .slice (some ⟨g1, 0, none⟩) l1 d1, .slice (some ⟨g2, 0, none⟩) l2 d2] 28) := ⟨_, rfl⟩
  obtain ⟨O, hO⟩ : ∃ O, v1.heap.size = O := ⟨_, rfl⟩
  have b : Below v1.heap.size v1 V := by rw [hV]; exact bel1 _
  have KO : Hid (Blk V O [.int .i64 n, .int .i64 h, .slice (some ⟨g1, 0, none⟩) l1 d1, .slice (some ⟨g2, 0, none⟩) l2 d2]) := hide (by rw [hV, ← hO]; exact Blk.new _ _)
  have HB := hide ((unhide HB).trans (b.mono (unhide HB).size))
  have R := hide ((unhide R).below b)
  have RZ := hide ((unhide RZ).below b)
  have KP := hide ((unhide KP).below b)
  have KR := hide ((unhide KR).below b)
  have VO := hide ((unhide VO).below b)
  have VO2 := hide ((unhide VO2).below b)
  have szV := b.size
  have m0 : V.cell? ⟨w.heap.size, 0, none⟩ = some (.int .i64 n) := (unhide KP).c 0 (by simp)
  have m1 : V.cell? ⟨w.heap.size, 1, none⟩ = some (.int .i64 h) := (unhide KP).c 1 (by simp)
  have m2 : V.cell? ⟨w.heap.size, 2, none⟩ = some (.slice (some p1) l1 c1) := (unhide KP).c 2 (by simp)
  have m3 : V.cell? ⟨w.heap.size, 3, none⟩ = some (.slice (some p2) l2 c2) := (unhide KP).c 3 (by simp)
  rw [hV] at m0 m1 m2 m3
  have HV := hide hV
  clear b hV
  go_wp2_with fail
  rw [← unhide HV]
  try rw [hO]
  have HO := hide hO
  have szO : W.heap.size ≤ O := by omega
  clear HV hO m0 m1 m2 m3
  obtain ⟨p1', p2', p3⟩ := seen_parts q1
  have vf := voFit p1'
  have e2 : l2 = l1 := by rw [← unhide Z1, ← unhide Z2]; exact vf.len
  have e3 : l3 = l1 := by rw [← unhide Z1, ← unhide Z3]; exact p2'
  subst e2
  subst e3
  have hL : 1 ≤ l3 ∧ l3 ≤ 5 := by have h1 := vf.b0; have h2 := vf.b1; rw [unhide Z1] at h1 h2; exact ⟨h1, h2⟩
  have HHA := hide (heardS_all (bs := bs) p3)
  have HP3 := hide p3
  have HVF := hide vf
  clear vf p1' p2' p3
  refine (l8Seen_is n h _ _ _ _ _ _ _ _ _ bs os zs _ (unhide R) (unhide RZ) q1).mono ?_
  rintro x w2 ⟨rfl, b⟩
  have HB := hide ((unhide HB).trans (b.mono (unhide HB).size))
  have R := hide ((unhide R).below b)
  have RZ := hide ((unhide RZ).below b)
  have KP := hide ((unhide KP).below b)
  have KR := hide ((unhide KR).below b)
  have KO := hide ((unhide KO).below b)
  have VO := hide ((unhide VO).below b)
  have VO2 := hide ((unhide VO2).below b)
  have sz2 := b.size
  clear b
  have m0 : w2.cell? ⟨w.heap.size, 0, none⟩ = some (.int .i64 n) := (unhide KP).c 0 (by simp)
  have m1 : w2.cell? ⟨w.heap.size, 1, none⟩ = some (.int .i64 h) := (unhide KP).c 1 (by simp)
  have m2 : w2.cell? ⟨w.heap.size, 2, none⟩ = some (.slice (some p1) l3 c1) := (unhide KP).c 2 (by simp)
  have m3 : w2.cell? ⟨w.heap.size, 3, none⟩ = some (.slice (some p2) l3 c2) := (unhide KP).c 3 (by simp)
  go_wp2_with fail
  clear m0 m1 m2 m3
  have hOlt := (unhide KO).lt
  refine (l8Heard_any n h _ _ _ l3 _ _ _ _ bs os zs _ (unhide R) (unhide RZ) hL.2).mono ?_
  rintro x w3 ⟨g, c, rfl, oh, b⟩
  have HB := hide ((unhide HB).trans (b.mono (unhide HB).size))
  have R := hide ((unhide R).below b)
  have RZ := hide ((unhide RZ).below b)
  have KP := hide ((unhide KP).below b)
  have KR := hide ((unhide KR).below b)
  have KO := hide ((unhide KO).below b)
  have VO := hide ((unhide VO).below b)
  have VO2 := hide ((unhide VO2).below b)
  have sz3 := b.size
  obtain ⟨H, hH⟩ : ∃ H, heardS bs zs = H := ⟨_, rfl⟩
  rw [hH] at oh HHA ⊢
  have HO1 := hide oh.row.open_
  have hgl := oh.lies g rfl
  have hl5 : H.length ≤ 5 := by rw [← hH]; have := heardS_len bs zs; have := unhide Z3; omega
  have HHH := hide hH
  clear oh b hH
  obtain ⟨m, hm⟩ : ∃ m, H.length = m := ⟨_, rfl⟩
  rw [hm] at HO1 hl5 ⊢
  have HM := hide hm
  clear hm
  have hm3 : 3 ≤ m := by have e := unhide HM; rw [← unhide HHH] at e; omega
  rcases (unhide HO1) with ⟨h1, _⟩ | ⟨bb, off, e, _, hc⟩
  · omega
  cases e
  obtain ⟨i1, hi1⟩ : ∃ i1 : Nat, (m - 1) / 2 = i1 := ⟨_, rfl⟩
  obtain ⟨i2, hi2⟩ : ∃ i2 : Nat, m / 2 = i2 := ⟨_, rfl⟩
  have y0 := hc i1 (by omega)
  have y1 := hc i2 (by omega)
  rw [Nat.zero_add] at y0 y1
  have b0 := (unhide HHA) i1 (by rw [unhide HM]; omega)
  have b1 := (unhide HHA) i2 (by rw [unhide HM]; omega)
  have EX : Hid (valX H = (nth H i1 + nth H i2) / 2) := hide (by unfold valX; rw [unhide HM, hi1, hi2, if_neg (by omega)])
  have EV0 : Hid (votOut n h bs os zs = (fiveJO n h bs os zs (valX H)).take bs.length ∧ votOdd n h bs os zs = (fiveJD n h bs os zs (valX H)).take bs.length ∧ votX n h bs os zs = valX H ∧ votC n h bs os zs = 3) := hide (by
    have eC : valC H = 3 := by unfold valC; rw [unhide HM]; omega
    have v := vot_mid q1 (by rw [unhide HHH, eC]; rfl)
    rw [unhide HHH, eC] at v
    exact v)
  have XB := valX_in (unhide HHA)
  obtain ⟨X, hX⟩ : ∃ X, valX H = X := ⟨_, rfl⟩
  rw [hX] at EX EV0 XB
  have z1 : ((m : Int) - 1).tdiv 2 = (i1 : Int) := by rw [Int.tdiv_eq_ediv_of_nonneg (by omega)]; omega
  have z1' : ((m : Int) - 1) / 2 = (i1 : Int) := by omega
  have z2 : (m : Int).tdiv 2 = (i2 : Int) := by rw [Int.tdiv_eq_ediv_of_nonneg (by omega)]; omega
  have z2' : (m : Int) / 2 = (i2 : Int) := by omega
  have z3 : IntKind.i64.wrap ((m : Int) - 1) = (m : Int) - 1 := by rw [IntKind.wrap_i64]; omega
  have hwd : IntKind.i64.wrap (nth H i1 + nth H i2) = nth H i1 + nth H i2 := by rw [IntKind.wrap_i64]; omega
  have j1 : (i1 : Int) < (m : Int) := by omega
  have j2 : (i2 : Int) < (m : Int) := by omega
  have e0 : ((m : Int) == 0) = false := by simp; omega
  have e1 : ((m : Int) == 1) = false := by simp; omega
  have e2 : ((m : Int) == 2) = false := by simp; omega
  have mz0 : ¬ m = 0 := by omega
  have mz1 : ¬ m = 1 := by omega
  have mz2 : ¬ m = 2 := by omega
  clear hc HO1 hX hi1 hi2
  go_wp2_with fail
  go_quiet ((go_at_call 47; first | exact Calls.quiet_of_same (down2_any _ _ (by omega)) | exact quietSame (down2_any _ _ (by omega))))
  rw [← unhide EX]
  have hgl1 := (unhide VL).1 g1 rfl
  have hgl2 := (unhide VL).2 g2 rfl
  have eO := unhide HO
  have S0 : Hid (Vst w (w3.drewN nq) n h p1 p2 c1 c2 O g1 g2 l3 d1 d2 (lnO n h bs os zs X 0) (lnD n h bs os zs X 0)) := hide (by
    have v2 := (unhide VO2).below (bel0d nq)
    rw [lnO_zero, lnD_zero (unhide HVF).len]
    exact ⟨(unhide KP).drewN nq, (unhide KR).drewN nq, (unhide KO).drewN nq, v2.o1, v2.o2, fun e => v2.p12 g1 rfl (by rw [e]; rfl), by omega, by omega, unhide Z1, unhide Z2, (unhide HB).trans (bel0d' nq)⟩)
  have EV : Hid (votOut n h bs os zs = lnO n h bs os zs X l3 ∧ votOdd n h bs os zs = lnD n h bs os zs X l3 ∧ votX n h bs os zs = X ∧ votC n h bs os zs = 3) := hide (by
    have e := unhide Z1
    have h5 : bs.length ≤ 5 := by rw [e]; exact hL.2
    rw [← e, lnO_all h5, lnD_all h5]
    exact unhide EV0)
  have hn0 := (unhide HVF).n0
  have hn1 := (unhide HVF).n1
  have hh0 := (unhide HVF).h0
  have hh1 := (unhide HVF).h1
  clear VL hgl1 hgl2 eO VO VO2 KP KR KO HB R RZ EV0 EX y0 y1 z1 z1' z2 z2' z3 hwd j1 j2 b0 b1 hOlt
  generalize w3.drewN nq = V3 at *
  go_wp2_with fail
  go_loopw [11] (fun i wr => ∃ k : Nat, i = .int .i64 (k : Int) ∧ k ≤ l3 ∧ Vst w wr n h p1 p2 c1 c2 O g1 g2 l3 d1 d2 (lnO n h bs os zs X k) (lnD n h bs os zs X k)) (fun i _ => l3 - (intOf i).toNat)
  case atStart => exact ⟨0, rfl, Nat.zero_le _, unhide S0⟩
  case round =>
    clear S0
    obtain ⟨k, rfl, hk, hs⟩ := hrel
    have HS := hide hs
    by_cases hlt : k < l3
    · have hlt' : (k : Int) < (l3 : Int) := by omega
      have hk0 : (0 : Int) ≤ (k : Int) := by omega
      rcases ((unhide HR0).r1.below hs.b).open1 with ⟨h0, _⟩ | ⟨q1b, q1f, e1, _, y1⟩
      · omega
      cases e1
      have t2 : wr.cell? ⟨w.heap.size, 2, none⟩ = some (.slice (some ⟨q1b, q1f, none⟩) l3 c1) := hs.p.c 2 (by simp)
      clear hs
      cases ho : elAt bs k with
      | true =>
        have z1 : wr.cell? ⟨q1b, q1f + k, none⟩ = some (.bool true) := by rw [← ho]; exact y1 k hlt
        have HE1 := hide (lnO_out (n := n) (h := h) (os := os) (zs := zs) (x := X) ho)
        have HE2 := hide (lnD_out (n := n) (h := h) (os := os) (zs := zs) (x := X) ho)
        clear y1 ho
        go_wp2_with fail
        go_roundw
        case rel => exact ⟨k + 1, by go_num, by omega, by rw [unhide HE1, unhide HE2]; exact unhide HS⟩
        case measure => simp [intOf]; omega
      | false =>
        have z1 : wr.cell? ⟨q1b, q1f + k, none⟩ = some (.bool false) := by rw [← ho]; exact y1 k hlt
        obtain ⟨s, hs⟩ : ∃ s, nth zs k = s := ⟨_, rfl⟩
        obtain ⟨d, hd⟩ : ∃ d, nth os k = d := ⟨_, rfl⟩
        have sb : -1000000 ≤ s ∧ s ≤ 1000000 := by
          rw [← hs]
          exact (unhide HP3) k (by rw [unhide Z3]; exact hlt)
        have db : 0 ≤ d ∧ d ≤ h := by rw [← hd]; exact (unhide HVF).all k (by rw [unhide Z2]; exact hlt)
        have HO1 := hide (lnO_step n h bs os zs X k)
        have HD1 := hide (lnD_step n h bs os zs X k)
        rw [ho, hs, hd] at HO1 HD1
        rcases (unhide HZ0).open_ with ⟨h0, _⟩ | ⟨q3b, q3f, rfl, _, y3⟩
        · omega
        rcases (unhide HR0).r2.open_ with ⟨h0, _⟩ | ⟨q2b, q2f, e2', _, y2⟩
        · omega
        cases e2'
        have z3 : w.cell? ⟨q3b, q3f + k, none⟩ = some (.int .i64 s) := by rw [← hs]; exact y3 k hlt
        have z2 : w.cell? ⟨q2b, q2f + k, none⟩ = some (.int .i64 d) := by rw [← hd]; exact y2 k hlt
        have Z2C := hide z2
        have hws : IntKind.i64.wrap (s - X) = s - X := by rw [IntKind.wrap_i64]; omega
        have hwd : IntKind.i64.wrap (d + 1) = d + 1 := by rw [IntKind.wrap_i64]; omega
        clear y1 y2 y3 hs hd ho z2
        obtain ⟨ι, f, _, hbf, hall⟩ := belClass wr
        have fz : ∀ x, (f x).cell? ⟨q3b, q3f + k, none⟩ = some (.int .i64 s) := fun x => (((unhide HS).below (hbf x)).b.cell (block_lt_of_cell z3)).trans z3
        have fn : ∀ x, (f x).cell? ⟨w.heap.size, 0, none⟩ = some (.int .i64 n) := fun x => ((unhide HS).below (hbf x)).p.c 0 (by simp)
        have HBF := hide hbf
        have HA := hide hall
        clear hbf hall z3
        by_cases hfar : n < ((s - X).natAbs : Int)
        · have JD := hide (jd_far (h := h) (d := d) hfar)
          go_wp2_with fail
          refine wp_region_bel (unhide HA) (by kernel_rfl) (by kernel_rfl) ?_
          repeat (go_big_quiet_step ((go_at_call 48; exact belS (abs_any _ _ (by omega)))))
          refine wpQuiet_nil ?_
          rintro _ ⟨y, rfl⟩
          have SV := (unhide HS).below (unhide HBF y)
          clear fz fn HA HBF HS
          generalize f y = V at *
          obtain ⟨ι2, f2, _, hbf2, hall2⟩ := belClass V
          have a1 : ∀ x, (f2 x).cell? ⟨O, 3, none⟩ = some (.slice (some ⟨g2, 0, none⟩) l3 d2) := fun x => (SV.below (hbf2 x)).o.c 3 (by simp)
          have a2 : ∀ x, (f2 x).cell? ⟨w.heap.size, 1, none⟩ = some (.int .i64 h) := fun x => (SV.below (hbf2 x)).p.c 1 (by simp)
          have a3' : ∀ x, (f2 x).cell? ⟨w.heap.size, 3, none⟩ = some (.slice (some ⟨q2b, q2f, none⟩) l3 c2) := fun x => (SV.below (hbf2 x)).p.c 3 (by simp)
          have a4 : ∀ x, (f2 x).cell? ⟨q2b, q2f + k, none⟩ = some (.int .i64 d) := fun x => ((SV.below (hbf2 x)).b.cell (block_lt_of_cell (unhide Z2C))).trans (unhide Z2C)
          have HD2 : ∀ x, (f2 x).cell? ⟨g2, k, none⟩ = some (.int .i64 (nth (lnD n h bs os zs X k) k)) ∧ (f2 x).frozen? ⟨g2, k, none⟩ = false := fun x => by
            have o := (SV.below (hbf2 x)).k2
            rw [← SV.l2] at o
            exact o.here k (by rw [SV.l2]; exact hlt)
          have a5 : ∀ x, (f2 x).cell? ⟨g2, k, none⟩ = some (.int .i64 (nth (lnD n h bs os zs X k) k)) := fun x => (HD2 x).1
          have a6 : ∀ x, (f2 x).frozen? ⟨g2, k, none⟩ = false := fun x => (HD2 x).2
          have NX : Hid (∀ x, Vst w ((f2 x).setCell ⟨g2, k, none⟩ (.int .i64 (min h (d + 1)))) n h ⟨q1b, q1f, none⟩ ⟨q2b, q2f, none⟩ c1 c2 O g1 g2 l3 d1 d2 (lnO n h bs os zs X k) ((lnD n h bs os zs X k).set k (min h (d + 1)))) := hide (fun x => (SV.below (hbf2 x)).set2 hlt _ (by omega))
          have HA := hide hall2
          clear hbf2 hall2 SV HD2
          go_wp2_with fail
          refine wp_region_then (unhide HA) (by kernel_rfl) (by kernel_rfl) (by kernel_rfl) ?_
          dsimp only [swapLast, lastOf]
          repeat (go_big_quiet_step ((go_at_call 49; exact belS (min_is _ _ _))))
          refine wpQuiet_nil ?_
          rintro _ ⟨y2, rfl⟩
          go_simp
          obtain ⟨U, hU⟩ : ∃ U, U = (f2 y2).setCell ⟨g2, k, none⟩ (.int .i64 (min h (d + 1))) := ⟨_, rfl⟩
          have SU := unhide NX y2
          rw [← hU] at SU ⊢
          clear hU NX HA a1 a2 a3' a4 a5 a6
          have JE : Hid (jdD n h false d s X = min h (d + 1) ∧ jdO n h false d s X = (min h (d + 1) == h)) := JD
          have hvb : -9223372036854775808 ≤ min h (d + 1) ∧ min h (d + 1) ≤ 9223372036854775807 := by omega
          generalize min h (d + 1) = dv at *
          obtain ⟨ι3, f3, _, hbf3, hall3⟩ := belClass U
          have c1' : ∀ x, (f3 x).cell? ⟨O, 2, none⟩ = some (.slice (some ⟨g1, 0, none⟩) l3 d1) := fun x => (SU.below (hbf3 x)).o.c 2 (by simp)
          have c2' : ∀ x, (f3 x).cell? ⟨O, 3, none⟩ = some (.slice (some ⟨g2, 0, none⟩) l3 d2) := fun x => (SU.below (hbf3 x)).o.c 3 (by simp)
          have c3' : ∀ x, (f3 x).cell? ⟨w.heap.size, 1, none⟩ = some (.int .i64 h) := fun x => (SU.below (hbf3 x)).p.c 1 (by simp)
          have c4' : ∀ x, (f3 x).cell? ⟨g2, k, none⟩ = some (.int .i64 dv) := fun x => by
            have o := (SU.below (hbf3 x)).k2
            rw [← SU.l2] at o
            have r := (o.here k (by rw [SU.l2]; exact hlt)).1
            rw [nth_set _ _ _ _ (by rw [lnD_len, unhide Z1]; exact hlt), if_pos rfl] at r
            exact r
          have HB3 : ∀ x, (f3 x).cell? ⟨g1, k, none⟩ = some (.bool (elAt (lnO n h bs os zs X k) k)) ∧ (f3 x).frozen? ⟨g1, k, none⟩ = false := fun x => (SU.below (hbf3 x)).k1.here1 SU.l1 k hlt
          have c5' : ∀ x, (f3 x).cell? ⟨g1, k, none⟩ = some (.bool (elAt (lnO n h bs os zs X k) k)) := fun x => (HB3 x).1
          have c6' : ∀ x, (f3 x).frozen? ⟨g1, k, none⟩ = false := fun x => (HB3 x).2
          have NX : Hid (∀ x, Vst w ((f3 x).setCell ⟨g1, k, none⟩ (.bool (dv == h))) n h ⟨q1b, q1f, none⟩ ⟨q2b, q2f, none⟩ c1 c2 O g1 g2 l3 d1 d2 (lnO n h bs os zs X (k + 1)) (lnD n h bs os zs X (k + 1))) := hide (fun x => by
            rw [unhide HO1, unhide HD1, (unhide JE).1, (unhide JE).2]
            exact (SU.below (hbf3 x)).set1 hlt (dv == h))
          have HA := hide hall3
          clear hbf3 hall3 SU HB3
          go_wp2_with fail
          refine wp_region_then (unhide HA) (by kernel_rfl) (by kernel_rfl) (by kernel_rfl) ?_
          dsimp only [swapLast, lastOf]
          repeat (go_big_quiet_step (fail))
          refine wpQuiet_nil ?_
          rintro _ ⟨y3, rfl⟩
          go_simp
          have SW := hide (unhide NX y3)
          clear c1' c2' c3' c4' c5' c6' NX HA
          go_wp2_with fail
          go_roundw
          case rel => exact ⟨k + 1, by go_num, by omega, unhide SW⟩
          case measure => simp [intOf]; omega
        · have JD := hide (jd_near (d := d) hfar hh0)
          go_wp2_with fail
          refine wp_region_bel (unhide HA) (by kernel_rfl) (by kernel_rfl) ?_
          repeat (go_big_quiet_step ((go_at_call 48; exact belS (abs_any _ _ (by omega)))))
          refine wpQuiet_nil ?_
          rintro _ ⟨y, rfl⟩
          have SV := (unhide HS).below (unhide HBF y)
          clear fz fn HA HBF HS
          generalize f y = V at *
          have a1 : V.cell? ⟨O, 3, none⟩ = some (.slice (some ⟨g2, 0, none⟩) l3 d2) := SV.o.c 3 (by simp)
          have HD2 : V.cell? ⟨g2, k, none⟩ = some (.int .i64 (nth (lnD n h bs os zs X k) k)) ∧ V.frozen? ⟨g2, k, none⟩ = false := by
            have o := SV.k2
            rw [← SV.l2] at o
            exact o.here k (by rw [SV.l2]; exact hlt)
          have a5 := HD2.1
          have a6 := HD2.2
          have NX := hide (SV.set2 hlt 0 (by omega))
          clear SV HD2
          go_wp2_with fail
          obtain ⟨U, hU⟩ : ∃ U, U = V.setCell ⟨g2, k, none⟩ (.int .i64 0) := ⟨_, rfl⟩
          have SU := unhide NX
          rw [← hU] at SU ⊢
          clear hU NX a1 a5 a6
          have JE : Hid (jdD n h false d s X = 0 ∧ jdO n h false d s X = ((0 : Int) == h)) := JD
          obtain ⟨dv, hdv⟩ : ∃ dv : Int, dv = 0 := ⟨_, rfl⟩
          rw [← hdv] at SU JE
          clear hdv
          obtain ⟨ι3, f3, _, hbf3, hall3⟩ := belClass U
          have c1' : ∀ x, (f3 x).cell? ⟨O, 2, none⟩ = some (.slice (some ⟨g1, 0, none⟩) l3 d1) := fun x => (SU.below (hbf3 x)).o.c 2 (by simp)
          have c2' : ∀ x, (f3 x).cell? ⟨O, 3, none⟩ = some (.slice (some ⟨g2, 0, none⟩) l3 d2) := fun x => (SU.below (hbf3 x)).o.c 3 (by simp)
          have c3' : ∀ x, (f3 x).cell? ⟨w.heap.size, 1, none⟩ = some (.int .i64 h) := fun x => (SU.below (hbf3 x)).p.c 1 (by simp)
          have c4' : ∀ x, (f3 x).cell? ⟨g2, k, none⟩ = some (.int .i64 dv) := fun x => by
            have o := (SU.below (hbf3 x)).k2
            rw [← SU.l2] at o
            have r := (o.here k (by rw [SU.l2]; exact hlt)).1
            rw [nth_set _ _ _ _ (by rw [lnD_len, unhide Z1]; exact hlt), if_pos rfl] at r
            exact r
          have HB3 : ∀ x, (f3 x).cell? ⟨g1, k, none⟩ = some (.bool (elAt (lnO n h bs os zs X k) k)) ∧ (f3 x).frozen? ⟨g1, k, none⟩ = false := fun x => (SU.below (hbf3 x)).k1.here1 SU.l1 k hlt
          have c5' : ∀ x, (f3 x).cell? ⟨g1, k, none⟩ = some (.bool (elAt (lnO n h bs os zs X k) k)) := fun x => (HB3 x).1
          have c6' : ∀ x, (f3 x).frozen? ⟨g1, k, none⟩ = false := fun x => (HB3 x).2
          have NX : Hid (∀ x, Vst w ((f3 x).setCell ⟨g1, k, none⟩ (.bool (dv == h))) n h ⟨q1b, q1f, none⟩ ⟨q2b, q2f, none⟩ c1 c2 O g1 g2 l3 d1 d2 (lnO n h bs os zs X (k + 1)) (lnD n h bs os zs X (k + 1))) := hide (fun x => by
            rw [unhide HO1, unhide HD1, (unhide JE).1, (unhide JE).2]
            exact (SU.below (hbf3 x)).set1 hlt (dv == h))
          have HA := hide hall3
          clear hbf3 hall3 SU HB3
          go_wp2_with fail
          refine wp_region_then (unhide HA) (by kernel_rfl) (by kernel_rfl) (by kernel_rfl) ?_
          dsimp only [swapLast, lastOf]
          repeat (go_big_quiet_step (fail))
          refine wpQuiet_nil ?_
          rintro _ ⟨y3, rfl⟩
          go_simp
          have SW := hide (unhide NX y3)
          clear c1' c2' c3' c4' c5' c6' NX HA
          go_wp2_with fail
          go_roundw
          case rel => exact ⟨k + 1, by go_num, by omega, unhide SW⟩
          case measure => simp [intOf]; omega
    · have eL : Hid (k = l3) := hide (by omega)
      have hlt' : ¬ (k : Int) < (l3 : Int) := by omega
      rw [unhide eL] at HS
      have KO := hide (unhide HS).o
      have KR := hide (unhide HS).r
      have HB := hide (unhide HS).b
      have VL : Hid ((∀ q, (Value.slice (some ⟨g1, 0, none⟩) l3 d1).ownBlock = some q → w.heap.size + 1 + 1 ≤ q ∧ q < wr.heap.size) ∧ (∀ q, (Value.slice (some ⟨g2, 0, none⟩) l3 d2).ownBlock = some q → w.heap.size + 1 + 1 ≤ q ∧ q < wr.heap.size)) := hide ⟨(unhide HS).k1.lies, (unhide HS).k2.lies⟩
      have VO : Hid (VoOwn wr w.heap.size (some ⟨g1, 0, none⟩) (some ⟨g2, 0, none⟩) l3 d1 l3 d2 (lnO n h bs os zs X l3) (lnD n h bs os zs X l3)) := hide ⟨(unhide HS).k1.mono (by omega), (unhide HS).k2.mono (by omega), fun q hq hq2 => by
        simp only [Value.ownBlock, Option.some.injEq] at hq hq2
        exact (unhide HS).ne (by omega)⟩
      clear HS hs
      have u0 : wr.cell? ⟨O, 0, none⟩ = some (.int .i64 n) := (unhide KO).c 0 (by simp)
      have r0 : wr.cell? ⟨w.heap.size + 1, 0, none⟩ = some (.int .i64 0) := (unhide KR).c 0 (by simp)
      have t0 : wr.frozen? ⟨w.heap.size + 1, 0, none⟩ = false := (unhide KR).f 0 (by simp)
      have u1 : wr.cell? ⟨O, 1, none⟩ = some (.int .i64 h) := (unhide KO).c 1 (by simp)
      have r1 : wr.cell? ⟨w.heap.size + 1, 1, none⟩ = some (.int .i64 0) := (unhide KR).c 1 (by simp)
      have t1 : wr.frozen? ⟨w.heap.size + 1, 1, none⟩ = false := (unhide KR).f 1 (by simp)
      have u2 : wr.cell? ⟨O, 2, none⟩ = some (.slice (some ⟨g1, 0, none⟩) l3 d1) := (unhide KO).c 2 (by simp)
      have r2 : wr.cell? ⟨w.heap.size + 1, 2, none⟩ = some (.slice none 0 0) := (unhide KR).c 2 (by simp)
      have t2 : wr.frozen? ⟨w.heap.size + 1, 2, none⟩ = false := (unhide KR).f 2 (by simp)
      have u3 : wr.cell? ⟨O, 3, none⟩ = some (.slice (some ⟨g2, 0, none⟩) l3 d2) := (unhide KO).c 3 (by simp)
      have r3 : wr.cell? ⟨w.heap.size + 1, 3, none⟩ = some (.slice none 0 0) := (unhide KR).c 3 (by simp)
      have t3 : wr.frozen? ⟨w.heap.size + 1, 3, none⟩ = false := (unhide KR).f 3 (by simp)
      have VO := hide ((unhide VO).set_other (S := w.heap.size + 1) (o := 0) (.int .i64 n) (fun e => by have := (unhide VL).1 _ e; omega) (fun e => by have := (unhide VL).2 _ e; omega))
      have HB := hide ((unhide HB).setCell (p := ⟨w.heap.size + 1, 0, none⟩) (by simp) (.int .i64 n))
      have VO := hide ((unhide VO).set_other (S := w.heap.size + 1) (o := 1) (.int .i64 h) (fun e => by have := (unhide VL).1 _ e; omega) (fun e => by have := (unhide VL).2 _ e; omega))
      have HB := hide ((unhide HB).setCell (p := ⟨w.heap.size + 1, 1, none⟩) (by simp) (.int .i64 h))
      have VO := hide ((unhide VO).set_other (S := w.heap.size + 1) (o := 2) (.slice (some ⟨g1, 0, none⟩) l3 d1) (fun e => by have := (unhide VL).1 _ e; omega) (fun e => by have := (unhide VL).2 _ e; omega))
      have HB := hide ((unhide HB).setCell (p := ⟨w.heap.size + 1, 2, none⟩) (by simp) (.slice (some ⟨g1, 0, none⟩) l3 d1))
      have VO := hide ((unhide VO).set_other (S := w.heap.size + 1) (o := 3) (.slice (some ⟨g2, 0, none⟩) l3 d2) (fun e => by have := (unhide VL).1 _ e; omega) (fun e => by have := (unhide VL).2 _ e; omega))
      have HB := hide ((unhide HB).setCell (p := ⟨w.heap.size + 1, 3, none⟩) (by simp) (.slice (some ⟨g2, 0, none⟩) l3 d2))
      go_wp2_with fail
      refine bodyPost_ret (v := .tuple #[.agg #[.int .i64 n, .int .i64 h, .slice (some ⟨g1, 0, none⟩) l3 d1, .slice (some ⟨g2, 0, none⟩) l3 d2], .int .i64 X, .int .i64 3]) (by simp [results, Try.results18, go_sem, *]) rfl ?_
      obtain ⟨w1e, w2e, w3e, w4e⟩ := unhide EV
      rw [w1e, w2e, w3e, w4e]
      exact ⟨g1, d1, g2, d2, by rw [lnO_len, lnD_len, unhide Z1], by rw [lnO_len, lnD_len, unhide Z1]; exact unhide VO, unhide HB⟩

end Go.Proofs.Ytghgbhoncgnbcaq
