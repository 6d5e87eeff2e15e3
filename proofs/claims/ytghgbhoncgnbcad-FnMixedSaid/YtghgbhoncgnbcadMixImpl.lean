/-
  What Mix answers in the program: the plain list, number and flag at every mixer, pitch, roll and limits; the list owns its memory; nothing that was there is written.
-/
import Derived.Test.YtghgbhoncgnbcadMixSpec
import Derived.Test.YtghgbhoncgnbcadLimIs
import Derived.Test.YtghgbhoncgnbcadLoopAt
import Derived.Deep.Cut
namespace Go.Proofs.Ytghgbhoncgnbcad
open Go.RowKit

theorem implAll_is {c : Bool} (ad : Option Addr) (len cap : Nat) (zs : List Int) (a b : Int) (w : World) (hr : Row w ad len zs) (hc : allB zs a b = c) :
    Calls Try.prog 26 #[.slice ad len cap, .int .i64 a, .int .i64 b] w fun e w' => e = .returned (.bool c) ∧ ∃ n, w' = w.drewN n := by
  subst hc; exact allWithin_any ad len cap zs a b w hr

def mxB (xs ys : List Int) : Bool := decide (xs.length ≤ 12) && decide (ys.length = xs.length) && allB xs (-100) 100 && allB ys (-100) 100
set_option maxHeartbeats 2000000 in
theorem mixerOk_any (a1 a2 : Option Addr) (l1 c1 l2 c2 : Nat) (xs ys : List Int) (w : World) (hr : MiIn w a1 a2 l1 l2 xs ys) :
    Calls Try.prog 48 #[.agg #[.slice a1 l1 c1, .slice a2 l2 c2]] w fun e w' => e = .returned (.bool (mxB xs ys)) ∧ Below w.heap.size w w' := by
  have H1 := hide (hr.r1.alloc (.cells #[.slice a1 l1 c1, .slice a2 l2 c2] 58))
  have H2 := hide (hr.r2.alloc (.cells #[.slice a1 l1 c1, .slice a2 l2 c2] 58))
  have hl1 := hr.r1.len_eq
  have hl2 := hr.r2.len_eq
  subst hl1
  subst hl2
  clear hr
  have HV : Hid (mxB xs ys = (decide (xs.length ≤ 12) && decide (ys.length = xs.length) && allB xs (-100) 100 && allB ys (-100) 100)) := hide rfl
  by_cases g1 : xs.length ≤ 12
  · have k1 : (xs.length : Int) ≤ 12 := by omega
    by_cases g2 : ys.length = xs.length
    · have k2 : ((ys.length : Int) == (xs.length : Int)) = true := by simp [g2]
      have HV : Hid (mxB xs ys = (allB xs (-100) 100 && allB ys (-100) 100)) := hide (by rw [unhide HV]; simp [g1, g2])
      clear g1 g2
      rcases two (allB xs (-100) 100) (allB ys (-100) 100) with ⟨q1, hv⟩ | ⟨q1, q2, hv⟩ | ⟨q1, q2, hv⟩
      all_goals
        have HE := hide ((unhide HV).trans hv)
        clear hv
        go_enter Try.func48, Try.ntmps48
        go_wp2_with (first
          | (go_at_call_of 26 (Value.slice a1 xs.length c1); refine (implAll_is _ _ _ xs _ _ _ (by first | exact unhide H1 | exact (unhide H1).drewN _) q1).mono ?_; rintro e w' ⟨rfl, n, rfl⟩)
          | (go_at_call_of 26 (Value.slice a2 ys.length c2); refine (implAll_is _ _ _ ys _ _ _ (by first | exact unhide H2 | exact (unhide H2).drewN _) q2).mono ?_; rintro e w' ⟨rfl, n, rfl⟩))
        go_ret
        exact ⟨ret_bool (unhide HE).symm, by first | exact bel1 _ | exact bel1d _ _⟩
    · have k2 : ((ys.length : Int) == (xs.length : Int)) = false := by simp; omega
      have HE : Hid (mxB xs ys = false) := hide (by rw [unhide HV]; simp [g2])
      clear g1 g2
      go_enter Try.func48, Try.ntmps48
      go_wp2_with fail
      go_ret
      exact ⟨ret_bool (unhide HE).symm, bel1 _⟩
  · have k1 : ¬ (xs.length : Int) ≤ 12 := by omega
    have HE : Hid (mxB xs ys = false) := hide (by rw [unhide HV]; simp [g1])
    clear g1
    go_enter Try.func48, Try.ntmps48
    go_wp2_with fail
    go_ret
    exact ⟨ret_bool (unhide HE).symm, bel1 _⟩
theorem mixerOk_is {c : Bool} (a1 a2 : Option Addr) (l1 c1 l2 c2 : Nat) (xs ys : List Int) (w : World) (hr : MiIn w a1 a2 l1 l2 xs ys) (hc : mxB xs ys = c) :
    Calls Try.prog 48 #[.agg #[.slice a1 l1 c1, .slice a2 l2 c2]] w fun e w' => e = .returned (.bool c) ∧ Below w.heap.size w w' := by
  subst hc; exact mixerOk_any a1 a2 l1 c1 l2 c2 xs ys w hr

set_option maxRecDepth 20000 in
set_option maxHeartbeats 8000000 in
theorem implMix_bad (a1 a2 : Option Addr) (l1 c1 l2 c2 : Nat) (xs ys : List Int) (p r a b s : Int) (w : World) (hr : MiIn w a1 a2 l1 l2 xs ys) (hb : miB xs ys p r a b s = false) :
    Calls Try.prog 23 #[.agg #[.slice a1 l1 c1, .slice a2 l2 c2], .int .i64 p, .int .i64 r, .agg #[.int .i64 a, .int .i64 b, .int .i64 s]] w fun e w' => ∃ a1 c1, e = .returned (.tuple #[.slice a1 (miL xs ys p r a b s).length c1, .int .i64 (miC xs ys p r a b s), .bool (miB xs ys p r a b s)]) ∧ OwnI w' w.heap.size (.slice a1 (miL xs ys p r a b s).length c1) (miL xs ys p r a b s) ∧ Below w.heap.size w w' := by
  rw [(mi_no hb).1, (mi_no hb).2, hb]
  have Z1 := hr.r1.len_eq
  have Z2 := hr.r2.len_eq
  have B0 := hide (bel2 (w := w) (.cells #[.slice a1 l1 c1, .slice a2 l2 c2] 58) (.cells #[.int .i64 a, .int .i64 b, .int .i64 s] 48))
  have R := hide (hr.below (unhide B0))
  have H1 := hide (unhide R).r1
  have H2 := hide (unhide R).r2
  have KP : Hid (Blk ((w.alloc (.cells #[.slice a1 l1 c1, .slice a2 l2 c2] 58)).alloc (.cells #[.int .i64 a, .int .i64 b, .int .i64 s] 48)) w.heap.size [.slice a1 l1 c1, .slice a2 l2 c2]) := hide blkAt2_0
  have KQ : Hid (Blk ((w.alloc (.cells #[.slice a1 l1 c1, .slice a2 l2 c2] 58)).alloc (.cells #[.int .i64 a, .int .i64 b, .int .i64 s] 48)) (w.heap.size + 1) [.int .i64 a, .int .i64 b, .int .i64 s]) := hide blkAt2_1
  have HB : Hid (¬ (mxB xs ys && liB a b s && inB p (-10000) 10000 && inB r (-10000) 10000) = true) := hide (by
    intro k
    have : miB xs ys p r a b s = (mxB xs ys && liB a b s && inB p (-10000) 10000 && inB r (-10000) 10000) := rfl
    rw [this, k] at hb
    cases hb)
  clear hr hb Z1 Z2
  rcases four (mxB xs ys) (liB a b s) (inB p (-10000) 10000) (inB r (-10000) 10000) with ⟨q1, hv⟩ | ⟨q1, q5, hv⟩ | ⟨q1, q5, q6, hv⟩ | ⟨q1, q5, q6, q7, hv⟩ | ⟨q1, q5, q6, q7, hv⟩
  rotate_left 4
  · exact absurd hv (unhide HB)
  all_goals
    clear hv HB
    go_enter Try.func23, Try.ntmps23
    go_wp2_with (first
      | (go_at_call 48; refine (mixerOk_is _ _ _ _ _ _ xs ys _ (unhide R) q1).mono ?_; rintro e w1 ⟨rfl, b1⟩; have m0 : w1.cell? ⟨w.heap.size + 1, 0, none⟩ = some (.int .i64 a) := ((unhide KQ).below b1).c 0 (by simp); have m1 : w1.cell? ⟨w.heap.size + 1, 1, none⟩ = some (.int .i64 b) := ((unhide KQ).below b1).c 1 (by simp); have m2 : w1.cell? ⟨w.heap.size + 1, 2, none⟩ = some (.int .i64 s) := ((unhide KQ).below b1).c 2 (by simp); have B1 := hide b1; clear b1)
      | (go_at_call 49; refine (implLimits_is _ _ _ _ q5).mono ?_; rintro e w2 ⟨rfl, b2⟩; have B2 := hide ((unhide B1).trans (b2.mono (unhide B1).size)); clear b2)
      | (go_at_call_of 25 (Value.int IntKind.i64 p); refine (within_is _ _ _ _ (by first | exact q6 | exact q7)).mono ?_; rintro e w' ⟨rfl, hw⟩; subst w')
      | (go_at_call_of 25 (Value.int IntKind.i64 r); refine (within_is _ _ _ _ (by first | exact q7 | exact q6)).mono ?_; rintro e w' ⟨rfl, hw⟩; subst w'))
    go_ret3
    first
      | (have B3 := (unhide B0).trans ((unhide B2).mono (unhide B0).size); exact ⟨_, _, rfl, ownI_made0 B3.size (by simp), B3.alloc B3.size _⟩)
      | (have B3 := (unhide B0).trans ((unhide B1).mono (unhide B0).size); exact ⟨_, _, rfl, ownI_made0 B3.size (by simp), B3.alloc B3.size _⟩)

set_option maxRecDepth 20000 in
set_option maxHeartbeats 8000000 in
theorem implMix_good (a1 a2 : Option Addr) (l1 c1 l2 c2 : Nat) (xs ys : List Int) (p r a b s : Int) (w : World) (hr : MiIn w a1 a2 l1 l2 xs ys) (hb : miB xs ys p r a b s = true) :
    Calls Try.prog 23 #[.agg #[.slice a1 l1 c1, .slice a2 l2 c2], .int .i64 p, .int .i64 r, .agg #[.int .i64 a, .int .i64 b, .int .i64 s]] w fun e w' => ∃ a1 c1, e = .returned (.tuple #[.slice a1 (miL xs ys p r a b s).length c1, .int .i64 (miC xs ys p r a b s), .bool (miB xs ys p r a b s)]) ∧ OwnI w' w.heap.size (.slice a1 (miL xs ys p r a b s).length c1) (miL xs ys p r a b s) ∧ Below w.heap.size w w' := by
  rw [(mi_yes hb).1, (mi_yes hb).2, hb]
  have F := miFit hb
  have HF := hide F
  have hZ1 := hr.r1.len_eq
  have hZ2 := hr.r2.len_eq
  have hL := F.n
  have hl12 := F.len
  obtain rfl : l1 = l2 := by omega
  have hL12 : l1 ≤ 12 := by omega
  have Z1 := hide hZ1
  have Z2 := hide hZ2
  have TL := hide (miTo_len xs ys p r a b xs.length)
  clear hl12 hL hZ1 hZ2 F
  have B0 := hide (bel2 (w := w) (.cells #[.slice a1 l1 c1, .slice a2 l1 c2] 58) (.cells #[.int .i64 a, .int .i64 b, .int .i64 s] 48))
  have R := hide (hr.below (unhide B0))
  have H1 := hide (unhide R).r1
  have H2 := hide (unhide R).r2
  have KP : Hid (Blk ((w.alloc (.cells #[.slice a1 l1 c1, .slice a2 l1 c2] 58)).alloc (.cells #[.int .i64 a, .int .i64 b, .int .i64 s] 48)) w.heap.size [.slice a1 l1 c1, .slice a2 l1 c2]) := hide blkAt2_0
  have KQ : Hid (Blk ((w.alloc (.cells #[.slice a1 l1 c1, .slice a2 l1 c2] 58)).alloc (.cells #[.int .i64 a, .int .i64 b, .int .i64 s] 48)) (w.heap.size + 1) [.int .i64 a, .int .i64 b, .int .i64 s]) := hide blkAt2_1
  have HR := hide hr
  have g1 : ¬ (12 : Int) < l1 := by omega
  have g2 : ((l1 : Int) != (l1 : Int)) = false := by simp
  simp only [miB, Bool.and_eq_true, decide_eq_true_eq] at hb
  obtain ⟨⟨⟨⟨⟨⟨h1, h2⟩, q3⟩, q4⟩, q5⟩, q6⟩, q7⟩ := hb
  have q1 : mxB xs ys = true := by unfold mxB; rw [q3, q4]; simp [h1, h2]
  clear h1 h2 hr
  · skip
    go_enter Try.func23, Try.ntmps23
    go_wp2_with (first
      | (go_at_call 48; refine (mixerOk_is _ _ _ _ _ _ xs ys _ (unhide R) q1).mono ?_; rintro e w1 ⟨rfl, b1⟩; have m0 : w1.cell? ⟨w.heap.size + 1, 0, none⟩ = some (.int .i64 a) := ((unhide KQ).below b1).c 0 (by simp); have m1 : w1.cell? ⟨w.heap.size + 1, 1, none⟩ = some (.int .i64 b) := ((unhide KQ).below b1).c 1 (by simp); have m2 : w1.cell? ⟨w.heap.size + 1, 2, none⟩ = some (.int .i64 s) := ((unhide KQ).below b1).c 2 (by simp); have B1 := hide b1; clear b1)
      | (go_at_call 49; refine (implLimits_is _ _ _ _ q5).mono ?_; rintro e w2 ⟨rfl, b2⟩; have B2 := hide ((unhide B1).trans (b2.mono (unhide B1).size)); have m0 : w2.cell? ⟨w.heap.size + 1, 0, none⟩ = some (.int .i64 a) := ((unhide KQ).below (unhide B2)).c 0 (by simp); have m1 : w2.cell? ⟨w.heap.size + 1, 1, none⟩ = some (.int .i64 b) := ((unhide KQ).below (unhide B2)).c 1 (by simp); clear b2)
      | (go_at_call 50; refine (heldIn_own _ _ _).mono ?_; rintro e w3 ⟨G, H, rfl, kg, kh, lg, lh, b3⟩; have B3 := hide ((unhide B2).trans (b3.mono (unhide B2).size)); have KG := hide kg; have KH := hide kh; have x0 : (w3.alloc (Obj.cells #[] 3)).cell? ⟨w.heap.size, 0, none⟩ = some (.slice a1 l1 c1) := (((unhide KP).below (unhide B3)).alloc _).c 0 (by simp); clear kg kh lg lh b3)
      | (go_at_call_of 25 (Value.int IntKind.i64 p); refine (within_is _ _ _ _ (by first | exact q6 | exact q7)).mono ?_; rintro e w' ⟨rfl, hw⟩; subst w')
      | (go_at_call_of 25 (Value.int IntKind.i64 r); refine (within_is _ _ _ _ (by first | exact q7 | exact q6)).mono ?_; rintro e w' ⟨rfl, hw⟩; subst w'))
    have BW : Below w.heap.size w w3 := (unhide B0).trans ((unhide B3).mono (unhide B0).size)
    have kp := (unhide KP).below (unhide B3)
    have kg := unhide KG
    have kh := unhide KH
    have S0 : Hid (LoopAt w (w3.alloc (Obj.cells #[] 3)) [(w.heap.size, [.slice a1 l1 c1, .slice a2 l1 c2]), (G, [.int .i64 a]), (H, [.int .i64 b])] w3.heap.size w3.heap.size 0 0 (miTo xs ys p r a b 0)) := hide ⟨by
        intro q hq
        simp only [List.mem_cons, List.not_mem_nil, or_false] at hq
        rcases hq with rfl | rfl | rfl
        · exact ⟨kp.alloc _, kp.lt⟩
        · exact ⟨kg.alloc _, kg.lt⟩
        · exact ⟨kh.alloc _, kh.lt⟩,
      ownI_none (Nat.le_refl _), rfl, BW.alloc BW.size _, BW.size, by simp⟩
    clear kp kg kh KG KH BW KP KQ B0 B1 B2 B3 R H1 H2 q3 q4 q5 q6 q7 g1 g2 q1 m0 m1 m2 x0
    obtain ⟨W, hW⟩ : ∃ W, W = w3.alloc (Obj.cells #[] 3) := ⟨_, rfl⟩
    rw [← hW] at S0 ⊢
    clear hW
    generalize w3.heap.size = BS at *
    go_loopw [12, 13, 46] (fun v c i wr => ∃ k g cp : Nat, v = .slice (some ⟨g, 0, none⟩) k cp ∧ c = .int .i64 (miCn xs ys p r a b k) ∧ i = .int .i64 (k : Int) ∧ k ≤ l1 ∧ LoopAt w wr [(w.heap.size, [.slice a1 l1 c1, .slice a2 l1 c2]), (G, [.int .i64 a]), (H, [.int .i64 b])] BS g k cp (miTo xs ys p r a b k)) (fun _ _ i _ => l1 - (intOf i).toNat)
    case atStart => exact ⟨0, _, 0, rfl, rfl, rfl, Nat.zero_le _, unhide S0⟩
    case round =>
    clear S0
    obtain ⟨k, g, cp, rfl, rfl, rfl, hk, hs⟩ := hrel
    obtain ⟨U, rfl⟩ : ∃ U, U = wr := ⟨_, rfl⟩
    have HS := hide hs
    have hb0 := hs.b
    have cb := miCn_bd xs ys p r a b k
    have p0 : U.cell? ⟨w.heap.size, 0, none⟩ = some (.slice a1 l1 c1) := (hs.x (w.heap.size, [.slice a1 l1 c1, .slice a2 l1 c2]) (by simp)).1.c 0 (by simp)
    have p1 : U.cell? ⟨w.heap.size, 1, none⟩ = some (.slice a2 l1 c2) := (hs.x (w.heap.size, [.slice a1 l1 c1, .slice a2 l1 c2]) (by simp)).1.c 1 (by simp)
    clear hs
    by_cases hlt : k < l1
    · have hlt' : (k : Int) < (l1 : Int) := by omega
      have hk0 : (0 : Int) ≤ (k : Int) := by omega
      rcases ((unhide HR).r1.below hb0).open_ with ⟨h0, _⟩ | ⟨b1, f1, rfl, _, y1⟩
      · omega
      rcases ((unhide HR).r2.below hb0).open_ with ⟨h0, _⟩ | ⟨b2, f2, rfl, _, y2⟩
      · omega
      have z1 := y1 k hlt
      have z2 := y2 k hlt
      have pr := miSum_bd (unhide HF) k (by rw [unhide Z1]; exact hlt)
      have li := (unhide HF).li
      have hpp := (unhide HF).p0
      have hab : a ≤ b := li.ab
      have hf : -9223372036854775808 ≤ miY xs ys p r a b k ∧ miY xs ys p r a b k ≤ 9223372036854775807 := by
        have := li.a0; have := li.b1; unfold miY holdI; omega
      have HE : Hid (miTo xs ys p r a b (k + 1) = miTo xs ys p r a b k ++ [miY xs ys p r a b k]) := hide (miTo_succ xs ys p r a b k)
      obtain ⟨x, hx⟩ : ∃ x, nth xs k = x := ⟨_, rfl⟩
      obtain ⟨y, hy⟩ : ∃ y, nth ys k = y := ⟨_, rfl⟩
      have HX : Hid (miX xs ys p r k = (x * p + y * r).tdiv 100) := hide (by unfold miX; rw [hx, hy])
      have HY : Hid (miY xs ys p r a b k = holdI ((x * p + y * r).tdiv 100) a b) := hide (by unfold miY; rw [unhide HX])
      rw [hx] at z1 pr
      rw [hy] at z2 pr
      rw [unhide HY] at HE hf
      have td := tdiv100 (x := x * p + y * r) (by omega) (by omega)
      clear hx hy y1 y2 hb0 li hpp
      cases hq : (holdI ((x * p + y * r).tdiv 100) a b != (x * p + y * r).tdiv 100) with
      | false =>
        have HC : Hid (miCn xs ys p r a b (k + 1) = miCn xs ys p r a b k) := hide (miCn_same (by rw [unhide HX, unhide HY]; have h := hq; simp only [bne_eq_false_iff_eq] at h; omega))
        have HO := hide (unhide HS).o
        have HLn := hide (unhide HS).l
        have HSZ := hide (unhide HS).t
        have HG : Hid (Blk U G [.int .i64 a]) := hide ((unhide HS).x (G, [.int .i64 a]) (by simp)).1
        have HH : Hid (Blk U H [.int .i64 b]) := hide ((unhide HS).x (H, [.int .i64 b]) (by simp)).1
        go_wp2_with (first
          | (go_at_call 60; refine (hold_any _ a b G H _ hab (unhide HG) (unhide HH)).mono ?_; rintro e w' ⟨rfl, hw⟩; subst w')
          | (at_builtin; refine wpList_app_int rfl _ _ rfl (n := k) (holdI ((x * p + y * r).tdiv 100) a b) (unhide HO) (unhide HLn) rfl (by first | rfl | simp) rfl (unhide HSZ) (by omega) hf ?_; intro g' c' w9 o9 gr9))
        have hs9 := (unhide HS).step o9 gr9
        exact ⟨⟨k + 1, g', c', rfl, by rw [unhide HC], by go_num, by omega, by rw [unhide HE]; exact hs9⟩, by simp [intOf]; omega⟩
      | true =>
        have HC : Hid (miCn xs ys p r a b (k + 1) = miCn xs ys p r a b k + 1) := hide (miCn_more (by rw [unhide HX, unhide HY]; have h := hq; simp only [bne_iff_ne, ne_eq] at h; omega))
        have HO := hide (unhide HS).o
        have HLn := hide (unhide HS).l
        have HSZ := hide (unhide HS).t
        have HG : Hid (Blk U G [.int .i64 a]) := hide ((unhide HS).x (G, [.int .i64 a]) (by simp)).1
        have HH : Hid (Blk U H [.int .i64 b]) := hide ((unhide HS).x (H, [.int .i64 b]) (by simp)).1
        go_wp2_with (first
          | (go_at_call 60; refine (hold_any _ a b G H _ hab (unhide HG) (unhide HH)).mono ?_; rintro e w' ⟨rfl, hw⟩; subst w')
          | (at_builtin; refine wpList_app_int rfl _ _ rfl (n := k) (holdI ((x * p + y * r).tdiv 100) a b) (unhide HO) (unhide HLn) rfl (by first | rfl | simp) rfl (unhide HSZ) (by omega) hf ?_; intro g' c' w9 o9 gr9))
        have hs9 := (unhide HS).step o9 gr9
        exact ⟨⟨k + 1, g', c', rfl, by rw [unhide HC], by go_num, by omega, by rw [unhide HE]; exact hs9⟩, by simp [intOf]; omega⟩
    · have hlt' : ¬ (k : Int) < (l1 : Int) := by omega
      have eL : Hid (xs.length = k) := hide (by rw [unhide Z1]; omega)
      have O9 := hide ((unhide HS).o.mono (unhide HS).s)
      clear HS
      go_wp2_with fail
      go_ret3
      refine ⟨some ⟨g, 0, none⟩, cp, ?_, ?_, hb0⟩
      · rw [miTo_len, unhide eL]; rfl
      · rw [miTo_len, unhide eL]; exact unhide O9

theorem implMix_any (a1 a2 : Option Addr) (l1 c1 l2 c2 : Nat) (xs ys : List Int) (p r a b s : Int) (w : World) (hr : MiIn w a1 a2 l1 l2 xs ys) :
    Calls Try.prog 23 #[.agg #[.slice a1 l1 c1, .slice a2 l2 c2], .int .i64 p, .int .i64 r, .agg #[.int .i64 a, .int .i64 b, .int .i64 s]] w fun e w' => ∃ a1 c1, e = .returned (.tuple #[.slice a1 (miL xs ys p r a b s).length c1, .int .i64 (miC xs ys p r a b s), .bool (miB xs ys p r a b s)]) ∧ OwnI w' w.heap.size (.slice a1 (miL xs ys p r a b s).length c1) (miL xs ys p r a b s) ∧ Below w.heap.size w w' := by
  cases hb : miB xs ys p r a b s with
  | false => have h := implMix_bad a1 a2 l1 c1 l2 c2 xs ys p r a b s w hr hb; rw [hb] at h; exact h
  | true => have h := implMix_good a1 a2 l1 c1 l2 c2 xs ys p r a b s w hr hb; rw [hb] at h; exact h

end Go.Proofs.Ytghgbhoncgnbcad
