/-
  What Mix answers in the model: the plain list, number and flag at every mixer, pitch, roll and limits; the list owns its memory; nothing that was there is written.
-/
import Derived.Test.YtghgbhoncgnbcarMiTo
import Derived.Test.YtghgbhoncgnbcarLimIs
import Derived.Test.YtghgbhoncgnbcarLoopAt
import Derived.Deep.Cut
namespace Go.Proofs.Ytghgbhoncgnbcar
open Go.RowKit

theorem miB_no {xs ys : List Int} {p r a b s : Int} (h : ¬ xs.length ≤ 12 ∨ ¬ ys.length = xs.length ∨ allB xs (-100) 100 = false ∨ allB ys (-100) 100 = false ∨ liB a b s = false ∨ inB p (-10000) 10000 = false ∨ inB r (-10000) 10000 = false) : miB xs ys p r a b s = false := by
  rcases h with h | h | h | h | h | h | h <;> simp [miB, h]
theorem miB_yes {xs ys : List Int} {p r a b s : Int} (h1 : xs.length ≤ 12) (h2 : ys.length = xs.length) (h3 : allB xs (-100) 100 = true) (h4 : allB ys (-100) 100 = true) (h5 : liB a b s = true) (h6 : inB p (-10000) 10000 = true) (h7 : inB r (-10000) 10000 = true) : miB xs ys p r a b s = true := by
  unfold miB; rw [h3, h4, h5, h6, h7]; simp [h1, h2]
theorem mi_no {xs ys : List Int} {p r a b s : Int} (h : miB xs ys p r a b s = false) : miL xs ys p r a b s = [] ∧ miC xs ys p r a b s = 0 := by simp [miL, miC, h]
theorem mi_yes {xs ys : List Int} {p r a b s : Int} (h : miB xs ys p r a b s = true) : miL xs ys p r a b s = miTo xs ys p r a b xs.length ∧ miC xs ys p r a b s = miCn xs ys p r a b xs.length := by simp [miL, miC, h]
theorem tdiv100 {x : Int} (h0 : -2000000 ≤ x) (h1 : x ≤ 2000000) : -2000000 ≤ x.tdiv 100 ∧ x.tdiv 100 ≤ 2000000 := by
  rcases Int.le_total 0 x with h | h
  · rw [Int.tdiv_eq_ediv_of_nonneg h]; omega
  · have e : x = -(-x) := by omega
    rw [e, Int.neg_tdiv, Int.tdiv_eq_ediv_of_nonneg (by omega)]; omega
theorem ownI_made0 {w w1 : World} {G : Nat} (h : w.heap.size ≤ w1.heap.size) (hG : w1.heap.size = G) : OwnI (w1.alloc (Obj.cells #[] 3)) w.heap.size (.slice (some ⟨G, 0, none⟩) 0 0) [] := by
  subst hG; exact ownI_none h
theorem miCn_same {xs ys : List Int} {p r a b : Int} {n : Nat} (h : miX xs ys p r n = miY xs ys p r a b n) : miCn xs ys p r a b (n + 1) = miCn xs ys p r a b n := by
  show miCn xs ys p r a b n + (if miX xs ys p r n = miY xs ys p r a b n then 0 else 1) = _
  rw [if_pos h]; omega
theorem miCn_more {xs ys : List Int} {p r a b : Int} {n : Nat} (h : ¬ miX xs ys p r n = miY xs ys p r a b n) : miCn xs ys p r a b (n + 1) = miCn xs ys p r a b n + 1 := by
  show miCn xs ys p r a b n + (if miX xs ys p r n = miY xs ys p r a b n then 0 else 1) = _
  rw [if_neg h]
theorem miL_len (xs ys : List Int) (p r a b s : Int) : (miL xs ys p r a b s).length ≤ 12 := by
  cases h : miB xs ys p r a b s with
  | false => simp [miL, h]
  | true => rw [(mi_yes h).1, miTo_len]; exact (miFit h).n
theorem ret_mix {v : Value} {c d : Int} {p q : Bool} (h1 : c = d) (h2 : p = q) : Ending.returned (.tuple #[v, .int .i64 c, .bool p]) = .returned (.tuple #[v, .int .i64 d, .bool q]) := by rw [h1, h2]

theorem specAll_is {c : Bool} (ad : Option Addr) (len cap : Nat) (zs : List Int) (a b : Int) (w : World) (hr : Row w ad len zs) (hc : allB zs a b = c) :
    Calls Try.prog 38 #[.slice ad len cap, .int .i64 a, .int .i64 b] w fun e w' => e = .returned (.bool c) ∧ ∃ n, w' = w.drewN n := by
  subst hc; exact l1All_any ad len cap zs a b w hr

set_option maxRecDepth 20000 in
set_option maxHeartbeats 8000000 in
theorem specMix_bad (a1 a2 : Option Addr) (l1 c1 l2 c2 : Nat) (xs ys : List Int) (p r a b s : Int) (w : World) (hr : MiIn w a1 a2 l1 l2 xs ys) (hb : miB xs ys p r a b s = false) :
    Calls Try.prog 27 #[.agg #[.slice a1 l1 c1, .slice a2 l2 c2], .int .i64 p, .int .i64 r, .agg #[.int .i64 a, .int .i64 b, .int .i64 s]] w fun e w' => ∃ a1 c1, e = .returned (.tuple #[.slice a1 (miL xs ys p r a b s).length c1, .int .i64 (miC xs ys p r a b s), .bool (miB xs ys p r a b s)]) ∧ OwnI w' w.heap.size (.slice a1 (miL xs ys p r a b s).length c1) (miL xs ys p r a b s) ∧ Below w.heap.size w w' := by
  rw [(mi_no hb).1, (mi_no hb).2, hb]
  have Z1 := hr.r1.len_eq
  have Z2 := hr.r2.len_eq
  have B0 := hide (bel2 (w := w) (.cells #[.slice a1 l1 c1, .slice a2 l2 c2] 56) (.cells #[.int .i64 a, .int .i64 b, .int .i64 s] 46))
  have R := hide (hr.below (unhide B0))
  have H1 := hide (unhide R).r1
  have H2 := hide (unhide R).r2
  have KP : Hid (Blk ((w.alloc (.cells #[.slice a1 l1 c1, .slice a2 l2 c2] 56)).alloc (.cells #[.int .i64 a, .int .i64 b, .int .i64 s] 46)) w.heap.size [.slice a1 l1 c1, .slice a2 l2 c2]) := hide blkAt2_0
  have KQ : Hid (Blk ((w.alloc (.cells #[.slice a1 l1 c1, .slice a2 l2 c2] 56)).alloc (.cells #[.int .i64 a, .int .i64 b, .int .i64 s] 46)) (w.heap.size + 1) [.int .i64 a, .int .i64 b, .int .i64 s]) := hide blkAt2_1
  have HB : Hid (¬ l1 ≤ 12 ∨ ¬ l1 = l2 ∨ allB xs (-100) 100 = false ∨ allB ys (-100) 100 = false ∨ liB a b s = false ∨ inB p (-10000) 10000 = false ∨ inB r (-10000) 10000 = false) := hide (by
    by_cases g1 : l1 ≤ 12
    · by_cases g2 : l1 = l2
      · cases g3 : allB xs (-100) 100
        · simp
        cases g4 : allB ys (-100) 100
        · simp
        cases g5 : liB a b s
        · simp
        cases g6 : inB p (-10000) 10000
        · simp
        cases g7 : inB r (-10000) 10000
        · simp
        rw [miB_yes (by omega) (by omega) g3 g4 g5 g6 g7] at hb
        cases hb
      · exact .inr (.inl g2)
    · exact .inl g1)
  clear hr hb Z1 Z2
  by_cases g1 : (12 : Int) < l1
  · clear HB
    go_enter Try.func27, Try.ntmps27
    go_wp2_with fail
    go_ret3
    exact ⟨_, _, rfl, ownI_made0 (unhide B0).size (by simp), (unhide B0).alloc (unhide B0).size _⟩
  cases g2 : ((l1 : Int) != (l2 : Int)) with
  | true =>
    clear HB
    go_enter Try.func27, Try.ntmps27
    go_wp2_with fail
    go_ret3
    exact ⟨_, _, rfl, ownI_made0 (unhide B0).size (by simp), (unhide B0).alloc (unhide B0).size _⟩
  | false =>
  have HB : Hid (¬ (allB xs (-100) 100 && allB ys (-100) 100 && liB a b s && inB p (-10000) 10000 && inB r (-10000) 10000) = true) := hide (by
    have g2' : l1 = l2 := by have : (l1 : Int) = (l2 : Int) := by simpa using g2
                             omega
    have h := unhide HB
    intro k
    simp only [Bool.and_eq_true] at k
    simp [k] at h
    omega)
  rcases five (allB xs (-100) 100) (allB ys (-100) 100) (liB a b s) (inB p (-10000) 10000) (inB r (-10000) 10000) with ⟨q3, hv⟩ | ⟨q3, q4, hv⟩ | ⟨q3, q4, q5, hv⟩ | ⟨q3, q4, q5, q6, hv⟩ | ⟨q3, q4, q5, q6, q7, hv⟩ | ⟨q3, q4, q5, q6, q7, hv⟩
  rotate_left 5
  · exact absurd hv (unhide HB)
  all_goals
    clear hv HB
    go_enter Try.func27, Try.ntmps27
    go_wp2_with (first
      | (go_at_call_of 38 (Value.slice a1 l1 c1); refine (specAll_is _ _ _ xs _ _ _ (by first | exact unhide H1 | exact (unhide H1).drewN _) q3).mono ?_; rintro e w' ⟨rfl, n, rfl⟩)
      | (go_at_call_of 38 (Value.slice a2 l2 c2); refine (specAll_is _ _ _ ys _ _ _ (by first | exact unhide H2 | exact (unhide H2).drewN _) q4).mono ?_; rintro e w' ⟨rfl, n, rfl⟩)
      | (go_at_call 49; refine (specLimits_is _ _ _ _ q5).mono ?_; rintro e w2 ⟨rfl, b2⟩)
      | (go_at_call_of 34 (Value.int IntKind.i64 p); refine (l1In_is _ _ _ _ (by first | exact q6 | exact q7)).mono ?_; rintro e w' ⟨rfl, hw⟩; subst w')
      | (go_at_call_of 34 (Value.int IntKind.i64 r); refine (l1In_is _ _ _ _ (by first | exact q7 | exact q6)).mono ?_; rintro e w' ⟨rfl, hw⟩; subst w'))
    go_ret3
    first
      | (have B2 := ((unhide B0).trans (bel0d' _)).trans (b2.mono ((unhide B0).trans (bel0d' _)).size); exact ⟨_, _, rfl, ownI_made0 B2.size (by simp), B2.alloc B2.size _⟩)
      | (refine ⟨_, _, rfl, ownI_made0 ?_ (by simp), Below.alloc ?_ ?_ _⟩ <;> first | exact (unhide B0).trans (bel0d' _) | exact ((unhide B0).trans (bel0d' _)).size)

set_option maxRecDepth 20000 in
set_option maxHeartbeats 8000000 in
theorem specMix_good (a1 a2 : Option Addr) (l1 c1 l2 c2 : Nat) (xs ys : List Int) (p r a b s : Int) (w : World) (hr : MiIn w a1 a2 l1 l2 xs ys) (hb : miB xs ys p r a b s = true) :
    Calls Try.prog 27 #[.agg #[.slice a1 l1 c1, .slice a2 l2 c2], .int .i64 p, .int .i64 r, .agg #[.int .i64 a, .int .i64 b, .int .i64 s]] w fun e w' => ∃ a1 c1, e = .returned (.tuple #[.slice a1 (miL xs ys p r a b s).length c1, .int .i64 (miC xs ys p r a b s), .bool (miB xs ys p r a b s)]) ∧ OwnI w' w.heap.size (.slice a1 (miL xs ys p r a b s).length c1) (miL xs ys p r a b s) ∧ Below w.heap.size w w' := by
  rw [(mi_yes hb).1, (mi_yes hb).2, hb]
  have F := miFit hb
  have HF := hide F
  have hZ1 := hr.r1.len_eq
  have hZ2 := hr.r2.len_eq
  have hL := F.n
  have hl12 := F.len
  obtain rfl : l1 = l2 := by omega
  have hL12 : l1 ≤ 12 := by omega
  have Z1 := hide hZ1
  have Z2 := hide hZ2
  have TL := hide (miTo_len xs ys p r a b xs.length)
  clear hl12 hL hZ1 hZ2 F
  have B0 := hide (bel2 (w := w) (.cells #[.slice a1 l1 c1, .slice a2 l1 c2] 56) (.cells #[.int .i64 a, .int .i64 b, .int .i64 s] 46))
  have R := hide (hr.below (unhide B0))
  have H1 := hide (unhide R).r1
  have H2 := hide (unhide R).r2
  have KP : Hid (Blk ((w.alloc (.cells #[.slice a1 l1 c1, .slice a2 l1 c2] 56)).alloc (.cells #[.int .i64 a, .int .i64 b, .int .i64 s] 46)) w.heap.size [.slice a1 l1 c1, .slice a2 l1 c2]) := hide blkAt2_0
  have KQ : Hid (Blk ((w.alloc (.cells #[.slice a1 l1 c1, .slice a2 l1 c2] 56)).alloc (.cells #[.int .i64 a, .int .i64 b, .int .i64 s] 46)) (w.heap.size + 1) [.int .i64 a, .int .i64 b, .int .i64 s]) := hide blkAt2_1
  have HR := hide hr
  have g1 : ¬ (12 : Int) < l1 := by omega
  have g2 : ((l1 : Int) != (l1 : Int)) = false := by simp
  simp only [miB, Bool.and_eq_true, decide_eq_true_eq] at hb
  obtain ⟨⟨⟨⟨⟨⟨h1, h2⟩, q3⟩, q4⟩, q5⟩, q6⟩, q7⟩ := hb
  have q1 : True := trivial
  clear h1 h2 hr
  · skip
    go_enter Try.func27, Try.ntmps27
    go_wp2_with (first
      | (go_at_call_of 38 (Value.slice a1 l1 c1); refine (specAll_is _ _ _ xs _ _ _ (by first | exact unhide H1 | exact (unhide H1).drewN _) q3).mono ?_; rintro e w' ⟨rfl, n, rfl⟩)
      | (go_at_call_of 38 (Value.slice a2 l1 c2); refine (specAll_is _ _ _ ys _ _ _ (by first | exact unhide H2 | exact (unhide H2).drewN _) q4).mono ?_; rintro e w' ⟨rfl, n, rfl⟩)
      | (go_at_call 49; refine (specLimits_is _ _ _ _ q5).mono ?_; rintro e w2 ⟨rfl, b2⟩)
      | (go_at_call_of 34 (Value.int IntKind.i64 p); refine (l1In_is _ _ _ _ (by first | exact q6 | exact q7)).mono ?_; rintro e w' ⟨rfl, hw⟩; subst w')
      | (go_at_call_of 34 (Value.int IntKind.i64 r); refine (l1In_is _ _ _ _ (by first | exact q7 | exact q6)).mono ?_; rintro e w' ⟨rfl, hw⟩; subst w'))
    have BW : Below w.heap.size w w2 := ((unhide B0).trans (bel0d' _)).trans (b2.mono ((unhide B0).trans (bel0d' _)).size)
    have kp := ((unhide KP).drewN _).below b2
    have kq := ((unhide KQ).drewN _).below b2
    have S0 : Hid (LoopAt w (w2.alloc (Obj.cells #[] 3)) [(w.heap.size, [.slice a1 l1 c1, .slice a2 l1 c2]), (w.heap.size + 1, [.int .i64 a, .int .i64 b, .int .i64 s])] w2.heap.size w2.heap.size 0 0 (miTo xs ys p r a b 0)) := hide ⟨by
        intro q hq
        simp only [List.mem_cons, List.not_mem_nil, or_false] at hq
        rcases hq with rfl | rfl
        · exact ⟨kp.alloc _, kp.lt⟩
        · exact ⟨kq.alloc _, kq.lt⟩,
      ownI_none (Nat.le_refl _), rfl, BW.alloc BW.size _, BW.size, by simp⟩
    clear b2 kp kq BW KP KQ B0 R H1 H2 q3 q4 q5 q6 q7 g1 g2 q1
    obtain ⟨W, hW⟩ : ∃ W, W = w2.alloc (Obj.cells #[] 3) := ⟨_, rfl⟩
    rw [← hW] at S0 ⊢
    clear hW
    generalize w2.heap.size = BS at *
    go_loopw [11, 12, 13] (fun v c i wr => ∃ k g cp : Nat, v = .slice (some ⟨g, 0, none⟩) k cp ∧ c = .int .i64 (miCn xs ys p r a b k) ∧ i = .int .i64 (k : Int) ∧ k ≤ l1 ∧ LoopAt w wr [(w.heap.size, [.slice a1 l1 c1, .slice a2 l1 c2]), (w.heap.size + 1, [.int .i64 a, .int .i64 b, .int .i64 s])] BS g k cp (miTo xs ys p r a b k)) (fun _ _ i _ => l1 - (intOf i).toNat)
    case atStart => exact ⟨0, _, 0, rfl, rfl, rfl, Nat.zero_le _, unhide S0⟩
    case round =>
    clear S0
    obtain ⟨k, g, cp, rfl, rfl, rfl, hk, hs⟩ := hrel
    obtain ⟨U, rfl⟩ : ∃ U, U = wr := ⟨_, rfl⟩
    have HS := hide hs
    have hb0 := hs.b
    have cb := miCn_bd xs ys p r a b k
    have p0 : U.cell? ⟨w.heap.size, 0, none⟩ = some (.slice a1 l1 c1) := (hs.x (w.heap.size, [.slice a1 l1 c1, .slice a2 l1 c2]) (by simp)).1.c 0 (by simp)
    have p1 : U.cell? ⟨w.heap.size, 1, none⟩ = some (.slice a2 l1 c2) := (hs.x (w.heap.size, [.slice a1 l1 c1, .slice a2 l1 c2]) (by simp)).1.c 1 (by simp)
    have q0 : U.cell? ⟨w.heap.size + 1, 0, none⟩ = some (.int .i64 a) := (hs.x (w.heap.size + 1, [.int .i64 a, .int .i64 b, .int .i64 s]) (by simp)).1.c 0 (by simp)
    have q1 : U.cell? ⟨w.heap.size + 1, 1, none⟩ = some (.int .i64 b) := (hs.x (w.heap.size + 1, [.int .i64 a, .int .i64 b, .int .i64 s]) (by simp)).1.c 1 (by simp)
    clear hs
    by_cases hlt : k < l1
    · have hlt' : (k : Int) < (l1 : Int) := by omega
      have hk0 : (0 : Int) ≤ (k : Int) := by omega
      rcases ((unhide HR).r1.below hb0).open_ with ⟨h0, _⟩ | ⟨b1, f1, rfl, _, y1⟩
      · omega
      rcases ((unhide HR).r2.below hb0).open_ with ⟨h0, _⟩ | ⟨b2, f2, rfl, _, y2⟩
      · omega
      have z1 := y1 k hlt
      have z2 := y2 k hlt
      have pr := miSum_bd (unhide HF) k (by rw [unhide Z1]; exact hlt)
      have li := (unhide HF).li
      have hpp := (unhide HF).p0
      have hab : a ≤ b := li.ab
      have hf : -9223372036854775808 ≤ miY xs ys p r a b k ∧ miY xs ys p r a b k ≤ 9223372036854775807 := by
        have := li.a0; have := li.b1; unfold miY holdI; omega
      have HE : Hid (miTo xs ys p r a b (k + 1) = miTo xs ys p r a b k ++ [miY xs ys p r a b k]) := hide (miTo_succ xs ys p r a b k)
      obtain ⟨x, hx⟩ : ∃ x, nth xs k = x := ⟨_, rfl⟩
      obtain ⟨y, hy⟩ : ∃ y, nth ys k = y := ⟨_, rfl⟩
      have HX : Hid (miX xs ys p r k = (x * p + y * r).tdiv 100) := hide (by unfold miX; rw [hx, hy])
      have HY : Hid (miY xs ys p r a b k = holdI ((x * p + y * r).tdiv 100) a b) := hide (by unfold miY; rw [unhide HX])
      rw [hx] at z1 pr
      rw [hy] at z2 pr
      rw [unhide HY] at HE hf
      have td := tdiv100 (x := x * p + y * r) (by omega) (by omega)
      clear hx hy y1 y2 hb0 li hpp
      cases hq : ((x * p + y * r).tdiv 100 != holdI ((x * p + y * r).tdiv 100) a b) with
      | false =>
        have HC : Hid (miCn xs ys p r a b (k + 1) = miCn xs ys p r a b k) := hide (miCn_same (by rw [unhide HX, unhide HY]; have h := hq; simp only [bne_eq_false_iff_eq] at h; omega))
        go_wp2_with fail
        go_quiet (fail)
        have BV : Below U.heap.size U (U.drewN nq) := bel0d nq
        generalize U.drewN nq = V at *
        have HS := hide ((unhide HS).below BV)
        have q0 : V.cell? ⟨w.heap.size + 1, 0, none⟩ = some (.int .i64 a) := ((unhide HS).x (w.heap.size + 1, [.int .i64 a, .int .i64 b, .int .i64 s]) (by simp)).1.c 0 (by simp)
        have q1 : V.cell? ⟨w.heap.size + 1, 1, none⟩ = some (.int .i64 b) := ((unhide HS).x (w.heap.size + 1, [.int .i64 a, .int .i64 b, .int .i64 s]) (by simp)).1.c 1 (by simp)
        clear BV z1 z2
        have HO := hide (unhide HS).o
        have HLn := hide (unhide HS).l
        have HSZ := hide (unhide HS).t
        go_wp2_with (first
          | (go_at_call 50; refine (l9Held_eq _ _ _ _).mono ?_; rintro e w' ⟨rfl, hw⟩; subst w')
          | (at_builtin; refine wpList_app_int rfl _ _ rfl (n := k) (holdI ((x * p + y * r).tdiv 100) a b) (unhide HO) (unhide HLn) rfl (by first | rfl | simp) rfl (unhide HSZ) (by omega) hf ?_; intro g' c' w9 o9 gr9))
        have hs9 := (unhide HS).step o9 gr9
        exact ⟨⟨k + 1, g', c', rfl, by rw [unhide HC], by go_num, by omega, by rw [unhide HE]; exact hs9⟩, by simp [intOf]; omega⟩
      | true =>
        have HC : Hid (miCn xs ys p r a b (k + 1) = miCn xs ys p r a b k + 1) := hide (miCn_more (by rw [unhide HX, unhide HY]; have h := hq; simp only [bne_iff_ne, ne_eq] at h; omega))
        go_wp2_with fail
        go_quiet (fail)
        have BV : Below U.heap.size U (U.drewN nq) := bel0d nq
        generalize U.drewN nq = V at *
        have HS := hide ((unhide HS).below BV)
        have q0 : V.cell? ⟨w.heap.size + 1, 0, none⟩ = some (.int .i64 a) := ((unhide HS).x (w.heap.size + 1, [.int .i64 a, .int .i64 b, .int .i64 s]) (by simp)).1.c 0 (by simp)
        have q1 : V.cell? ⟨w.heap.size + 1, 1, none⟩ = some (.int .i64 b) := ((unhide HS).x (w.heap.size + 1, [.int .i64 a, .int .i64 b, .int .i64 s]) (by simp)).1.c 1 (by simp)
        clear BV z1 z2
        have HO := hide (unhide HS).o
        have HLn := hide (unhide HS).l
        have HSZ := hide (unhide HS).t
        go_wp2_with (first
          | (go_at_call 50; refine (l9Held_eq _ _ _ _).mono ?_; rintro e w' ⟨rfl, hw⟩; subst w')
          | (at_builtin; refine wpList_app_int rfl _ _ rfl (n := k) (holdI ((x * p + y * r).tdiv 100) a b) (unhide HO) (unhide HLn) rfl (by first | rfl | simp) rfl (unhide HSZ) (by omega) hf ?_; intro g' c' w9 o9 gr9))
        have hs9 := (unhide HS).step o9 gr9
        exact ⟨⟨k + 1, g', c', rfl, by rw [unhide HC], by go_num, by omega, by rw [unhide HE]; exact hs9⟩, by simp [intOf]; omega⟩
    · have hlt' : ¬ (k : Int) < (l1 : Int) := by omega
      have eL : Hid (xs.length = k) := hide (by rw [unhide Z1]; omega)
      have O9 := hide ((unhide HS).o.mono (unhide HS).s)
      clear HS
      go_wp2_with fail
      go_ret3
      refine ⟨some ⟨g, 0, none⟩, cp, ?_, ?_, hb0⟩
      · rw [miTo_len, unhide eL]; rfl
      · rw [miTo_len, unhide eL]; exact unhide O9

theorem specMix_any (a1 a2 : Option Addr) (l1 c1 l2 c2 : Nat) (xs ys : List Int) (p r a b s : Int) (w : World) (hr : MiIn w a1 a2 l1 l2 xs ys) :
    Calls Try.prog 27 #[.agg #[.slice a1 l1 c1, .slice a2 l2 c2], .int .i64 p, .int .i64 r, .agg #[.int .i64 a, .int .i64 b, .int .i64 s]] w fun e w' => ∃ a1 c1, e = .returned (.tuple #[.slice a1 (miL xs ys p r a b s).length c1, .int .i64 (miC xs ys p r a b s), .bool (miB xs ys p r a b s)]) ∧ OwnI w' w.heap.size (.slice a1 (miL xs ys p r a b s).length c1) (miL xs ys p r a b s) ∧ Below w.heap.size w w' := by
  cases hb : miB xs ys p r a b s with
  | false => have h := specMix_bad a1 a2 l1 c1 l2 c2 xs ys p r a b s w hr hb; rw [hb] at h; exact h
  | true => have h := specMix_good a1 a2 l1 c1 l2 c2 xs ys p r a b s w hr hb; rw [hb] at h; exact h

end Go.Proofs.Ytghgbhoncgnbcar
