/-
  What the model's PumpTick answers: as the plain function. At every pump, wish and leak; nothing that was there is written.
-/
import Derived.Test.YtdeodlinjilehapLastSpec
namespace Go.Proofs.Ytdeodlinjilehap
open Go.RowKit

theorem l1MaxB_any (a b : Int) (w : World) :
    Calls Try.prog 19 #[.int .i64 a, .int .i64 b] w fun e w' => e = .returned (.int .i64 (max a b)) ∧ w' = w := by
  by_cases h : b < a
  · have HE : Hid (max a b = a) := hide (by omega)
    go_enter Try.func19, Try.ntmps19
    go_wp2
    go_ret
    exact ⟨ret_int (unhide HE).symm, rfl⟩
  · have HE : Hid (max a b = b) := hide (by omega)
    go_enter Try.func19, Try.ntmps19
    go_wp2
    go_ret
    exact ⟨ret_int (unhide HE).symm, rfl⟩
theorem l1MaxB_is {c : Int} (a b : Int) (w : World) (h : max a b = c) :
    Calls Try.prog 19 #[.int .i64 a, .int .i64 b] w fun e w' => e = .returned (.int .i64 c) ∧ w' = w := by
  subst h; exact l1MaxB_any a b w

set_option maxRecDepth 20000 in
set_option maxHeartbeats 2000000 in
theorem specPump_any (s p f : Int) (want : Bool) (k : Int) (w : World) :
    Calls Try.prog 10 #[.agg #[.int .i64 s, .int .i64 p, .int .i64 f], .bool want, .int .i64 k] w fun x w' => x = .returned (.tuple #[.agg #[.int .i64 (pumpT s p f want k).1, .int .i64 (pumpT s p f want k).2.1, .int .i64 (pumpT s p f want k).2.2], .bool (pumpB s p f k)]) ∧ Below w.heap.size w w' := by
  cases hb : pumpB s p f k with
  | false =>
    have HT : Hid (pumpT s p f want k = (0, 0, 0)) := hide (by unfold pumpT; rw [hb]; rfl)
    rw [unhide HT]
    cases h1 : inB s 0 2 with
    | false =>
      clear hb
      go_enter Try.func10, Try.ntmps10
      go_wp2_with (go_at_call 14; refine (l1In_any _ _ _ _).mono ?_; rintro e w' ⟨rfl, hw⟩; subst w')
      refine bodyPost_ret (v := .tuple #[.agg #[.int .i64 0, .int .i64 0, .int .i64 0], .bool false]) (by simp [results, Try.results10, go_sem]) rfl ⟨rfl, ?_⟩
      repeat (first | exact Below.refl _ _ | refine Below.setCell ?_ (by simp; try omega) _ | refine Below.alloc ?_ (by simp; try omega) _)
    | true =>
      cases h2 : inB p 0 5000 with
      | false =>
        clear hb
        go_enter Try.func10, Try.ntmps10
        go_wp2_with (go_at_call 14; refine (l1In_any _ _ _ _).mono ?_; rintro e w' ⟨rfl, hw⟩; subst w')
        refine bodyPost_ret (v := .tuple #[.agg #[.int .i64 0, .int .i64 0, .int .i64 0], .bool false]) (by simp [results, Try.results10, go_sem]) rfl ⟨rfl, ?_⟩
        repeat (first | exact Below.refl _ _ | refine Below.setCell ?_ (by simp; try omega) _ | refine Below.alloc ?_ (by simp; try omega) _)
      | true =>
        cases h3 : inB f 0 5 with
        | false =>
          clear hb
          go_enter Try.func10, Try.ntmps10
          go_wp2_with (go_at_call 14; refine (l1In_any _ _ _ _).mono ?_; rintro e w' ⟨rfl, hw⟩; subst w')
          refine bodyPost_ret (v := .tuple #[.agg #[.int .i64 0, .int .i64 0, .int .i64 0], .bool false]) (by simp [results, Try.results10, go_sem]) rfl ⟨rfl, ?_⟩
          repeat (first | exact Below.refl _ _ | refine Below.setCell ?_ (by simp; try omega) _ | refine Below.alloc ?_ (by simp; try omega) _)
        | true =>
          have h4 : inB k 0 500 = false := by simpa [pumpB, h1, h2, h3] using hb
          clear hb
          go_enter Try.func10, Try.ntmps10
          go_wp2_with (go_at_call 14; refine (l1In_any _ _ _ _).mono ?_; rintro e w' ⟨rfl, hw⟩; subst w')
          refine bodyPost_ret (v := .tuple #[.agg #[.int .i64 0, .int .i64 0, .int .i64 0], .bool false]) (by simp [results, Try.results10, go_sem]) rfl ⟨rfl, ?_⟩
          repeat (first | exact Below.refl _ _ | refine Below.setCell ?_ (by simp; try omega) _ | refine Below.alloc ?_ (by simp; try omega) _)
  | true =>
    have HT : Hid (pumpT s p f want k = pumpN s p f want k) := hide (by unfold pumpT; rw [hb]; rfl)
    rw [unhide HT]
    obtain ⟨⟨⟨h1, h2⟩, h3⟩, h4⟩ : ((inB s 0 2 = true ∧ inB p 0 5000 = true) ∧ inB f 0 5 = true) ∧ inB k 0 500 = true := by simpa [pumpB] using hb
    have g1 := in_facts h1
    have g2 := in_facts h2
    have g3 := in_facts h3
    have g4 := in_facts h4
    clear hb HT
    by_cases hs2 : s = 2
    · subst hs2
      obtain ⟨Q, hQ⟩ : ∃ Q, max 0 (min 5000 (p + -k)) = Q := ⟨_, rfl⟩
      have HN : Hid (pumpN 2 p f want k = (2, Q, f)) := hide (by unfold pumpN pumpP; simp [← hQ])
      have HQ := hide hQ
      rw [unhide HN]
      clear hQ
      go_enter Try.func10, Try.ntmps10
      go_wp2_with (first | (go_at_call 14; refine (l1In_any _ _ _ _).mono ?_; rintro e w' ⟨rfl, hw⟩; subst w') | (go_at_call 16; refine (l1MinB_any _ _ _).mono ?_; rintro e w' ⟨rfl, hw⟩; subst w') | (go_at_call 19; refine (l1MaxB_is _ _ _ (unhide HQ)).mono ?_; rintro e w' ⟨rfl, hw⟩; subst w'))
      refine bodyPost_ret (v := .tuple #[.agg #[.int .i64 2, .int .i64 Q, .int .i64 f], .bool true]) (by simp [results, Try.results10, go_sem]) rfl ⟨rfl, ?_⟩
      repeat (first | exact Below.refl _ _ | refine Below.setCell ?_ (by simp; try omega) _ | refine Below.alloc ?_ (by simp; try omega) _)
    · have hs3 : (s == 2) = false := by simpa using hs2
      cases want with
      | false =>
        obtain ⟨Q, hQ⟩ : ∃ Q, max 0 (min 5000 (p + -k)) = Q := ⟨_, rfl⟩
        have HN : Hid (pumpN s p f false k = (0, Q, 0)) := hide (by unfold pumpN pumpP; simp [← hQ, hs2])
        have HQ := hide hQ
        rw [unhide HN]
        clear hQ
        go_enter Try.func10, Try.ntmps10
        go_wp2_with (first | (go_at_call 14; refine (l1In_any _ _ _ _).mono ?_; rintro e w' ⟨rfl, hw⟩; subst w') | (go_at_call 16; refine (l1MinB_any _ _ _).mono ?_; rintro e w' ⟨rfl, hw⟩; subst w') | (go_at_call 19; refine (l1MaxB_is _ _ _ (unhide HQ)).mono ?_; rintro e w' ⟨rfl, hw⟩; subst w'))
        refine bodyPost_ret (v := .tuple #[.agg #[.int .i64 0, .int .i64 Q, .int .i64 0], .bool true]) (by simp [results, Try.results10, go_sem]) rfl ⟨rfl, ?_⟩
        repeat (first | exact Below.refl _ _ | refine Below.setCell ?_ (by simp; try omega) _ | refine Below.alloc ?_ (by simp; try omega) _)
      | true =>
        obtain ⟨Q, hQ⟩ : ∃ Q, max 0 (min 5000 (p + (-k + 200))) = Q := ⟨_, rfl⟩
        have hQ2 : pumpP s p true k = Q := by
          unfold pumpP
          rw [if_neg hs2, if_pos rfl, ← hQ]
          congr 3
          omega
        have HQ := hide hQ
        by_cases hq : Q < 1000
        · obtain ⟨R, hR⟩ : ∃ R, min 5 (f + 1) = R := ⟨_, rfl⟩
          have HR := hide hR
          by_cases h5 : R = 5
          · subst h5
            have HN : Hid (pumpN s p f true k = (2, Q, 5)) := hide (by unfold pumpN; rw [hQ2, if_neg hs2, if_pos rfl, if_pos hq, hR, if_pos rfl])
            rw [unhide HN]
            clear hQ hQ2 hR
            go_enter Try.func10, Try.ntmps10
            go_wp2_with (first | (go_at_call 14; refine (l1In_any _ _ _ _).mono ?_; rintro e w' ⟨rfl, hw⟩; subst w') | (go_at_call_of 16 (Value.int IntKind.i64 5); refine (l1MinB_is _ _ _ (unhide HR)).mono ?_; rintro e w' ⟨rfl, hw⟩; subst w') | (go_at_call 16; refine (l1MinB_any _ _ _).mono ?_; rintro e w' ⟨rfl, hw⟩; subst w') | (go_at_call 19; refine (l1MaxB_is _ _ _ (unhide HQ)).mono ?_; rintro e w' ⟨rfl, hw⟩; subst w'))
            refine bodyPost_ret (v := .tuple #[.agg #[.int .i64 2, .int .i64 Q, .int .i64 5], .bool true]) (by simp [results, Try.results10, go_sem]) rfl ⟨rfl, ?_⟩
            repeat (first | exact Below.refl _ _ | refine Below.setCell ?_ (by simp; try omega) _ | refine Below.alloc ?_ (by simp; try omega) _)
          · have HN : Hid (pumpN s p f true k = (1, Q, R)) := hide (by unfold pumpN; rw [hQ2, if_neg hs2, if_pos rfl, if_pos hq, hR, if_neg h5])
            rw [unhide HN]
            clear hQ hQ2 hR
            go_enter Try.func10, Try.ntmps10
            go_wp2_with (first | (go_at_call 14; refine (l1In_any _ _ _ _).mono ?_; rintro e w' ⟨rfl, hw⟩; subst w') | (go_at_call_of 16 (Value.int IntKind.i64 5); refine (l1MinB_is _ _ _ (unhide HR)).mono ?_; rintro e w' ⟨rfl, hw⟩; subst w') | (go_at_call 16; refine (l1MinB_any _ _ _).mono ?_; rintro e w' ⟨rfl, hw⟩; subst w') | (go_at_call 19; refine (l1MaxB_is _ _ _ (unhide HQ)).mono ?_; rintro e w' ⟨rfl, hw⟩; subst w'))
            refine bodyPost_ret (v := .tuple #[.agg #[.int .i64 1, .int .i64 Q, .int .i64 R], .bool true]) (by simp [results, Try.results10, go_sem]) rfl ⟨rfl, ?_⟩
            repeat (first | exact Below.refl _ _ | refine Below.setCell ?_ (by simp; try omega) _ | refine Below.alloc ?_ (by simp; try omega) _)
        · have HN : Hid (pumpN s p f true k = (1, Q, 0)) := hide (by unfold pumpN; rw [hQ2, if_neg hs2, if_pos rfl, if_neg hq])
          rw [unhide HN]
          clear hQ hQ2
          go_enter Try.func10, Try.ntmps10
          go_wp2_with (first | (go_at_call 14; refine (l1In_any _ _ _ _).mono ?_; rintro e w' ⟨rfl, hw⟩; subst w') | (go_at_call 16; refine (l1MinB_any _ _ _).mono ?_; rintro e w' ⟨rfl, hw⟩; subst w') | (go_at_call 19; refine (l1MaxB_is _ _ _ (unhide HQ)).mono ?_; rintro e w' ⟨rfl, hw⟩; subst w'))
          refine bodyPost_ret (v := .tuple #[.agg #[.int .i64 1, .int .i64 Q, .int .i64 0], .bool true]) (by simp [results, Try.results10, go_sem]) rfl ⟨rfl, ?_⟩
          repeat (first | exact Below.refl _ _ | refine Below.setCell ?_ (by simp; try omega) _ | refine Below.alloc ?_ (by simp; try omega) _)

end Go.Proofs.Ytdeodlinjilehap
