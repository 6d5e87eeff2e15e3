/-
  What the program's PumpTick answers: as the plain function. At every pump, wish and leak; nothing that was there is written.
-/
import Derived.Test.YtdeodlinjilehapSmall
import Derived.Test.YtdeodlinjilehapBlk
import Derived.Test.YtdeodlinjilehapLastPure
namespace Go.Proofs.Ytdeodlinjilehap
open Go.RowKit

/-- The pressure held in its bounds. -/
def heldP (x : Int) : Int := max 0 (min 5000 x)
theorem heldP_bd (x : Int) : 0 ≤ heldP x ∧ heldP x ≤ 5000 := by unfold heldP; omega
/-- The pump with its fault counted. -/
def countF (p f : Int) : Int × Int := if p < 1000 then (if min 5 (f + 1) = 5 then 2 else 1, min 5 (f + 1)) else (1, 0)

set_option maxHeartbeats 1000000 in
theorem pumpOk_any (s p f : Int) (w : World) :
    Calls Try.prog 20 #[.agg #[.int .i64 s, .int .i64 p, .int .i64 f]] w fun x w' => x = .returned (.bool (inB s 0 2 && inB p 0 5000 && inB f 0 5)) ∧ Below w.heap.size w w' := by
  rcases three (inB s 0 2) (inB p 0 5000) (inB f 0 5) with ⟨h, _⟩ | ⟨h, h', _⟩ | ⟨h, h', h'', _⟩ | ⟨h, h', h'', _⟩
  all_goals
    go_enter Try.func20, Try.ntmps20
    go_wp2_with (go_at_call 21; refine (within_any _ _ _ _).mono ?_; rintro e w' ⟨rfl, hw⟩; subst w')
    go_ret
    exact ⟨ret_bool (by simp [*]), bel1 _⟩
theorem pumpOk_is {b : Bool} (s p f : Int) (w : World) (hc : (inB s 0 2 && inB p 0 5000 && inB f 0 5) = b) :
    Calls Try.prog 20 #[.agg #[.int .i64 s, .int .i64 p, .int .i64 f]] w fun x w' => x = .returned (.bool b) ∧ Below w.heap.size w w' := by
  subst hc; exact pumpOk_any s p f w

set_option maxHeartbeats 1000000 in
theorem pressed_any (s p f d : Int) (w : World) (h1 : 0 ≤ p) (h2 : p ≤ 5000) (h3 : -500 ≤ d) (h4 : d ≤ 500) :
    Calls Try.prog 22 #[.agg #[.int .i64 s, .int .i64 p, .int .i64 f], .int .i64 d] w fun x w' => x = .returned (.agg #[.int .i64 s, .int .i64 (heldP (p + d)), .int .i64 f]) ∧ Below w.heap.size w w' := by

  rcases (show p + d < 0 ∨ 5000 < p + d ∨ (0 ≤ p + d ∧ p + d ≤ 5000) by omega) with h | h | ⟨h, h'⟩
  · have HE : Hid (heldP (p + d) = 0) := hide (by unfold heldP; omega)
    rw [unhide HE]
    have g : ¬ 0 < p + d := by omega
    go_enter Try.func22, Try.ntmps22
    go_wp2
    refine bodyPost_ret (v := .agg #[.int .i64 s, .int .i64 0, .int .i64 f]) (by simp [results, Try.results22, go_sem]) rfl ⟨rfl, ?_⟩
    repeat (first | exact Below.refl _ _ | refine Below.setCell ?_ (by simp; try omega) _ | refine Below.alloc ?_ (by simp; try omega) _)
  · have HE : Hid (heldP (p + d) = 5000) := hide (by unfold heldP; omega)
    rw [unhide HE]
    have g : 0 < p + d := by omega
    have g2 : ¬ p + d < 0 := by omega
    go_enter Try.func22, Try.ntmps22
    go_wp2
    refine bodyPost_ret (v := .agg #[.int .i64 s, .int .i64 5000, .int .i64 f]) (by simp [results, Try.results22, go_sem]) rfl ⟨rfl, ?_⟩
    repeat (first | exact Below.refl _ _ | refine Below.setCell ?_ (by simp; try omega) _ | refine Below.alloc ?_ (by simp; try omega) _)
  · have HE : Hid (heldP (p + d) = p + d) := hide (by unfold heldP; omega)
    rw [unhide HE]
    have g2 : ¬ p + d < 0 := by omega
    have g3 : ¬ 5000 < p + d := by omega
    by_cases g : 0 < p + d
    · go_enter Try.func22, Try.ntmps22
      go_wp2
      refine bodyPost_ret (v := .agg #[.int .i64 s, .int .i64 (p + d), .int .i64 f]) (by simp [results, Try.results22, go_sem]) rfl ⟨rfl, ?_⟩
      repeat (first | exact Below.refl _ _ | refine Below.setCell ?_ (by simp; try omega) _ | refine Below.alloc ?_ (by simp; try omega) _)
    · have HZ : Hid (p + d = 0) := hide (by omega)
      rw [unhide HZ]
      go_enter Try.func22, Try.ntmps22
      go_wp2
      refine bodyPost_ret (v := .agg #[.int .i64 s, .int .i64 0, .int .i64 f]) (by simp [results, Try.results22, go_sem, unhide HZ]) rfl ⟨rfl, ?_⟩
      repeat (first | exact Below.refl _ _ | refine Below.setCell ?_ (by simp; try omega) _ | refine Below.alloc ?_ (by simp; try omega) _)

set_option maxHeartbeats 1000000 in
theorem faultCounted_any (p f : Int) (w : World) (h1 : 0 ≤ f) (h2 : f ≤ 5) :
    Calls Try.prog 23 #[.agg #[.int .i64 1, .int .i64 p, .int .i64 f]] w fun x w' => x = .returned (.agg #[.int .i64 (countF p f).1, .int .i64 p, .int .i64 (countF p f).2]) ∧ Below w.heap.size w w' := by
  by_cases hp : p < 1000
  · rcases (show f = 4 ∨ f = 5 ∨ f < 4 by omega) with rfl | rfl | h
    · have HE : Hid (countF p 4 = (2, 5)) := hide (by unfold countF; rw [if_pos hp]; rfl)
      rw [unhide HE]
      have hp' : ¬ 1000 ≤ p := by omega
      go_enter Try.func23, Try.ntmps23
      go_wp2
      refine bodyPost_ret (v := .agg #[.int .i64 2, .int .i64 p, .int .i64 5]) (by simp [results, Try.results23, go_sem]) rfl ⟨rfl, ?_⟩
      repeat (first | exact Below.refl _ _ | refine Below.setCell ?_ (by simp; try omega) _ | refine Below.alloc ?_ (by simp; try omega) _)
    · have HE : Hid (countF p 5 = (2, 5)) := hide (by unfold countF; rw [if_pos hp]; rfl)
      rw [unhide HE]
      have hp' : ¬ 1000 ≤ p := by omega
      go_enter Try.func23, Try.ntmps23
      go_wp2
      refine bodyPost_ret (v := .agg #[.int .i64 2, .int .i64 p, .int .i64 5]) (by simp [results, Try.results23, go_sem]) rfl ⟨rfl, ?_⟩
      repeat (first | exact Below.refl _ _ | refine Below.setCell ?_ (by simp; try omega) _ | refine Below.alloc ?_ (by simp; try omega) _)
    · have HE : Hid (countF p f = (1, f + 1)) := hide (by
        unfold countF
        rw [if_pos hp, show min 5 (f + 1) = f + 1 by omega, if_neg (by omega)])
      rw [unhide HE]
      have hp' : ¬ 1000 ≤ p := by omega
      have h5 : ¬ 5 < f + 1 := by omega
      have h6 : ¬ f + 1 = 5 := by omega
      have h7 : ¬ f = 4 := by omega
      go_enter Try.func23, Try.ntmps23
      go_wp2
      refine bodyPost_ret (v := .agg #[.int .i64 1, .int .i64 p, .int .i64 (f + 1)]) (by simp [results, Try.results23, go_sem]) rfl ⟨rfl, ?_⟩
      repeat (first | exact Below.refl _ _ | refine Below.setCell ?_ (by simp; try omega) _ | refine Below.alloc ?_ (by simp; try omega) _)
  · have HE : Hid (countF p f = (1, 0)) := hide (by unfold countF; rw [if_neg hp])
    rw [unhide HE]
    have hp' : 1000 ≤ p := by omega
    go_enter Try.func23, Try.ntmps23
    go_wp2
    refine bodyPost_ret (v := .agg #[.int .i64 1, .int .i64 p, .int .i64 0]) (by simp [results, Try.results23, go_sem]) rfl ⟨rfl, ?_⟩
    repeat (first | exact Below.refl _ _ | refine Below.setCell ?_ (by simp; try omega) _ | refine Below.alloc ?_ (by simp; try omega) _)


theorem pump_eq (s p f k : Int) : pumpB s p f k = ((inB s 0 2 && inB p 0 5000 && inB f 0 5) && inB k 0 500) := rfl

set_option maxRecDepth 20000 in
set_option maxHeartbeats 2000000 in
theorem implPump_any (s p f : Int) (want : Bool) (k : Int) (w : World) :
    Calls Try.prog 12 #[.agg #[.int .i64 s, .int .i64 p, .int .i64 f], .bool want, .int .i64 k] w fun x w' => x = .returned (.tuple #[.agg #[.int .i64 (pumpT s p f want k).1, .int .i64 (pumpT s p f want k).2.1, .int .i64 (pumpT s p f want k).2.2], .bool (pumpB s p f k)]) ∧ Below w.heap.size w w' := by
  have R0 := hide ((Blk.new (w := w) [.int .i64 s, .int .i64 p, .int .i64 f] 34).alloc (Obj.cells #[.int .i64 0, .int .i64 0, .int .i64 0] 34))
  have S0 : Hid (Blk ((w.alloc (Obj.cells #[.int .i64 s, .int .i64 p, .int .i64 f] 34)).alloc (Obj.cells #[.int .i64 0, .int .i64 0, .int .i64 0] 34)) (w.heap.size + 1) [.int .i64 0, .int .i64 0, .int .i64 0]) := hide (by
    have := Blk.new (w := w.alloc (Obj.cells #[.int .i64 s, .int .i64 p, .int .i64 f] 34)) [.int .i64 0, .int .i64 0, .int .i64 0] 34
    simpa using this)
  have B0 := hide (bel2 (w := w) (Obj.cells #[.int .i64 s, .int .i64 p, .int .i64 f] 34) (Obj.cells #[.int .i64 0, .int .i64 0, .int .i64 0] 34))

  cases hb : (inB s 0 2 && inB p 0 5000 && inB f 0 5) with
  | false =>
    have HB : Hid (pumpB s p f k = false) := hide (by rw [pump_eq, hb]; rfl)
    have HT : Hid (pumpT s p f want k = (0, 0, 0)) := hide (by unfold pumpT; rw [unhide HB]; rfl)
    rw [unhide HB, unhide HT]
    go_enter Try.func12, Try.ntmps12
    go_wp2_with fail
    refine (pumpOk_is _ _ _ _ hb).mono ?_
    rintro x w1 ⟨rfl, b1⟩
    have B1 := (unhide B0).trans (b1.mono (unhide B0).size)
    have R1 := (unhide R0).below b1
    have S1 := (unhide S0).below b1
    have c0 : w1.cell? ⟨w.heap.size, 0, none⟩ = some (.int .i64 s) := R1.c 0 (by simp)
    have c1 : w1.cell? ⟨w.heap.size, 1, none⟩ = some (.int .i64 p) := R1.c 1 (by simp)
    have c2 : w1.cell? ⟨w.heap.size, 2, none⟩ = some (.int .i64 f) := R1.c 2 (by simp)
    have z0 : w1.frozen? ⟨w.heap.size, 0, none⟩ = false := R1.f 0 (by simp)
    have d0 : w1.cell? ⟨w.heap.size + 1, 0, none⟩ = some (.int .i64 0) := S1.c 0 (by simp)
    have d1 : w1.cell? ⟨w.heap.size + 1, 1, none⟩ = some (.int .i64 0) := S1.c 1 (by simp)
    have d2 : w1.cell? ⟨w.heap.size + 1, 2, none⟩ = some (.int .i64 0) := S1.c 2 (by simp)
    have y0 : w1.frozen? ⟨w.heap.size + 1, 0, none⟩ = false := S1.f 0 (by simp)
    have y1 : w1.frozen? ⟨w.heap.size + 1, 1, none⟩ = false := S1.f 1 (by simp)
    have y2 : w1.frozen? ⟨w.heap.size + 1, 2, none⟩ = false := S1.f 2 (by simp)
    have KB := hide B1
    have KR := hide R1
    have KS := hide S1
    clear b1 B1 R1 S1 R0 S0 B0
    go_wp2_with fail
    refine bodyPost_ret (v := .tuple #[.agg #[.int .i64 0, .int .i64 0, .int .i64 0], .bool false]) (by simp [results, Try.results12, go_sem, *]) rfl ⟨rfl, ?_⟩
    repeat (first | exact unhide KB | refine Below.setCell ?_ (by simp; try omega) _)
  | true =>
    cases hk : inB k 0 500 with
    | false =>
      have HB : Hid (pumpB s p f k = false) := hide (by rw [pump_eq, hb, hk]; rfl)
      have HT : Hid (pumpT s p f want k = (0, 0, 0)) := hide (by unfold pumpT; rw [unhide HB]; rfl)
      rw [unhide HB, unhide HT]
      go_enter Try.func12, Try.ntmps12
      go_wp2_with fail
      refine (pumpOk_is _ _ _ _ hb).mono ?_
      rintro x w1 ⟨rfl, b1⟩
      have B1 := (unhide B0).trans (b1.mono (unhide B0).size)
      have R1 := (unhide R0).below b1
      have S1 := (unhide S0).below b1
      have c0 : w1.cell? ⟨w.heap.size, 0, none⟩ = some (.int .i64 s) := R1.c 0 (by simp)
      have c1 : w1.cell? ⟨w.heap.size, 1, none⟩ = some (.int .i64 p) := R1.c 1 (by simp)
      have c2 : w1.cell? ⟨w.heap.size, 2, none⟩ = some (.int .i64 f) := R1.c 2 (by simp)
      have z0 : w1.frozen? ⟨w.heap.size, 0, none⟩ = false := R1.f 0 (by simp)
      have d0 : w1.cell? ⟨w.heap.size + 1, 0, none⟩ = some (.int .i64 0) := S1.c 0 (by simp)
      have d1 : w1.cell? ⟨w.heap.size + 1, 1, none⟩ = some (.int .i64 0) := S1.c 1 (by simp)
      have d2 : w1.cell? ⟨w.heap.size + 1, 2, none⟩ = some (.int .i64 0) := S1.c 2 (by simp)
      have y0 : w1.frozen? ⟨w.heap.size + 1, 0, none⟩ = false := S1.f 0 (by simp)
      have y1 : w1.frozen? ⟨w.heap.size + 1, 1, none⟩ = false := S1.f 1 (by simp)
      have y2 : w1.frozen? ⟨w.heap.size + 1, 2, none⟩ = false := S1.f 2 (by simp)
      have KB := hide B1
      have KR := hide R1
      have KS := hide S1
      clear b1 B1 R1 S1 R0 S0 B0
      go_wp2_with (go_at_call 21; refine (within_is _ _ _ _ hk).mono ?_; rintro e w' ⟨rfl, hw⟩; subst w')
      refine bodyPost_ret (v := .tuple #[.agg #[.int .i64 0, .int .i64 0, .int .i64 0], .bool false]) (by simp [results, Try.results12, go_sem, *]) rfl ⟨rfl, ?_⟩
      repeat (first | exact unhide KB | refine Below.setCell ?_ (by simp; try omega) _)
    | true =>
      have HB : Hid (pumpB s p f k = true) := hide (by rw [pump_eq, hb, hk]; rfl)
      have HT : Hid (pumpT s p f want k = pumpN s p f want k) := hide (by unfold pumpT; rw [unhide HB]; rfl)
      rw [unhide HB, unhide HT]
      have hkk := in_facts hk
      obtain ⟨⟨hs0, hp0⟩, hf0⟩ : (inB s 0 2 = true ∧ inB p 0 5000 = true) ∧ inB f 0 5 = true := by simpa using hb
      have hpp := in_facts hp0
      have hff := in_facts hf0
      have hss := in_facts hs0
      clear hs0 hp0 hf0
      by_cases hs2 : s = 2
      · subst hs2
        have HN : Hid (pumpN 2 p f want k = (2, heldP (p + -k), f)) := hide (by unfold pumpN pumpP heldP; simp)
        rw [unhide HN]
        go_enter Try.func12, Try.ntmps12
        go_wp2_with fail
        refine (pumpOk_is _ _ _ _ hb).mono ?_
        rintro x w1 ⟨rfl, b1⟩
        have B1 := (unhide B0).trans (b1.mono (unhide B0).size)
        have R1 := (unhide R0).below b1
        have S1 := (unhide S0).below b1
        have c0 : w1.cell? ⟨w.heap.size, 0, none⟩ = some (.int .i64 2) := R1.c 0 (by simp)
        have c1 : w1.cell? ⟨w.heap.size, 1, none⟩ = some (.int .i64 p) := R1.c 1 (by simp)
        have c2 : w1.cell? ⟨w.heap.size, 2, none⟩ = some (.int .i64 f) := R1.c 2 (by simp)
        have z0 : w1.frozen? ⟨w.heap.size, 0, none⟩ = false := R1.f 0 (by simp)
        have d0 : w1.cell? ⟨w.heap.size + 1, 0, none⟩ = some (.int .i64 0) := S1.c 0 (by simp)
        have d1 : w1.cell? ⟨w.heap.size + 1, 1, none⟩ = some (.int .i64 0) := S1.c 1 (by simp)
        have d2 : w1.cell? ⟨w.heap.size + 1, 2, none⟩ = some (.int .i64 0) := S1.c 2 (by simp)
        have y0 : w1.frozen? ⟨w.heap.size + 1, 0, none⟩ = false := S1.f 0 (by simp)
        have y1 : w1.frozen? ⟨w.heap.size + 1, 1, none⟩ = false := S1.f 1 (by simp)
        have y2 : w1.frozen? ⟨w.heap.size + 1, 2, none⟩ = false := S1.f 2 (by simp)
        have KB := hide B1
        have KR := hide R1
        have KS := hide S1
        clear b1 B1 R1 S1 R0 S0 B0
        go_wp2_with (go_at_call 21; refine (within_is _ _ _ _ hk).mono ?_; rintro e w' ⟨rfl, hw⟩; subst w')
        refine (pressed_any _ _ _ (-k) _ hpp.1 hpp.2 (by omega) (by omega)).mono ?_
        have KB1 := KB
        have KS1 := KS
        rintro x w2 ⟨rfl, b2⟩
        have KB2 := hide ((unhide KB1).trans (b2.mono (unhide KB1).size))
        have S2 := (unhide KS1).below b2
        have d0 : w2.cell? ⟨w.heap.size + 1, 0, none⟩ = some (.int .i64 0) := S2.c 0 (by simp)
        have d1 : w2.cell? ⟨w.heap.size + 1, 1, none⟩ = some (.int .i64 0) := S2.c 1 (by simp)
        have d2 : w2.cell? ⟨w.heap.size + 1, 2, none⟩ = some (.int .i64 0) := S2.c 2 (by simp)
        have y0 : w2.frozen? ⟨w.heap.size + 1, 0, none⟩ = false := S2.f 0 (by simp)
        have y1 : w2.frozen? ⟨w.heap.size + 1, 1, none⟩ = false := S2.f 1 (by simp)
        have y2 : w2.frozen? ⟨w.heap.size + 1, 2, none⟩ = false := S2.f 2 (by simp)
        clear b2 S2
        go_wp2_with fail
        refine bodyPost_ret (v := .tuple #[.agg #[.int .i64 2, .int .i64 (heldP (p + -k)), .int .i64 f], .bool true]) (by simp [results, Try.results12, go_sem, *]) rfl ⟨rfl, ?_⟩
        repeat (first | exact unhide KB2 | refine Below.setCell ?_ (by simp; try omega) _)
      · cases want with
        | false =>
          have HN : Hid (pumpN s p f false k = (0, heldP (p + -k), 0)) := hide (by unfold pumpN pumpP heldP; simp [hs2])
          rw [unhide HN]
          go_enter Try.func12, Try.ntmps12
          go_wp2_with fail
          refine (pumpOk_is _ _ _ _ hb).mono ?_
          rintro x w1 ⟨rfl, b1⟩
          have B1 := (unhide B0).trans (b1.mono (unhide B0).size)
          have R1 := (unhide R0).below b1
          have S1 := (unhide S0).below b1
          have c0 : w1.cell? ⟨w.heap.size, 0, none⟩ = some (.int .i64 s) := R1.c 0 (by simp)
          have c1 : w1.cell? ⟨w.heap.size, 1, none⟩ = some (.int .i64 p) := R1.c 1 (by simp)
          have c2 : w1.cell? ⟨w.heap.size, 2, none⟩ = some (.int .i64 f) := R1.c 2 (by simp)
          have z0 : w1.frozen? ⟨w.heap.size, 0, none⟩ = false := R1.f 0 (by simp)
          have d0 : w1.cell? ⟨w.heap.size + 1, 0, none⟩ = some (.int .i64 0) := S1.c 0 (by simp)
          have d1 : w1.cell? ⟨w.heap.size + 1, 1, none⟩ = some (.int .i64 0) := S1.c 1 (by simp)
          have d2 : w1.cell? ⟨w.heap.size + 1, 2, none⟩ = some (.int .i64 0) := S1.c 2 (by simp)
          have y0 : w1.frozen? ⟨w.heap.size + 1, 0, none⟩ = false := S1.f 0 (by simp)
          have y1 : w1.frozen? ⟨w.heap.size + 1, 1, none⟩ = false := S1.f 1 (by simp)
          have y2 : w1.frozen? ⟨w.heap.size + 1, 2, none⟩ = false := S1.f 2 (by simp)
          have KB := hide B1
          have KR := hide R1
          have KS := hide S1
          clear b1 B1 R1 S1 R0 S0 B0
          go_wp2_with (go_at_call 21; refine (within_is _ _ _ _ hk).mono ?_; rintro e w' ⟨rfl, hw⟩; subst w')
          refine (pressed_any _ _ _ (-k) _ hpp.1 hpp.2 (by omega) (by omega)).mono ?_
          have KB1 := KB
          have KS1 := KS
          rintro x w2 ⟨rfl, b2⟩
          have KB2 := hide ((unhide KB1).trans (b2.mono (unhide KB1).size))
          have S2 := (unhide KS1).below b2
          have d0 : w2.cell? ⟨w.heap.size + 1, 0, none⟩ = some (.int .i64 0) := S2.c 0 (by simp)
          have d1 : w2.cell? ⟨w.heap.size + 1, 1, none⟩ = some (.int .i64 0) := S2.c 1 (by simp)
          have d2 : w2.cell? ⟨w.heap.size + 1, 2, none⟩ = some (.int .i64 0) := S2.c 2 (by simp)
          have y0 : w2.frozen? ⟨w.heap.size + 1, 0, none⟩ = false := S2.f 0 (by simp)
          have y1 : w2.frozen? ⟨w.heap.size + 1, 1, none⟩ = false := S2.f 1 (by simp)
          have y2 : w2.frozen? ⟨w.heap.size + 1, 2, none⟩ = false := S2.f 2 (by simp)
          clear b2 S2
          go_wp2_with fail
          refine bodyPost_ret (v := .tuple #[.agg #[.int .i64 0, .int .i64 (heldP (p + -k)), .int .i64 0], .bool true]) (by simp [results, Try.results12, go_sem, *]) rfl ⟨rfl, ?_⟩
          repeat (first | exact unhide KB2 | refine Below.setCell ?_ (by simp; try omega) _)
        | true =>
          have HN : Hid (pumpN s p f true k = ((countF (heldP (p + (200 - k))) f).1, heldP (p + (200 - k)), (countF (heldP (p + (200 - k))) f).2)) := hide (by
            unfold pumpN pumpP heldP countF
            simp only [if_neg hs2, if_true]
            split <;> rfl)
          rw [unhide HN]
          go_enter Try.func12, Try.ntmps12
          go_wp2_with fail
          refine (pumpOk_is _ _ _ _ hb).mono ?_
          rintro x w1 ⟨rfl, b1⟩
          have B1 := (unhide B0).trans (b1.mono (unhide B0).size)
          have R1 := (unhide R0).below b1
          have S1 := (unhide S0).below b1
          have c0 : w1.cell? ⟨w.heap.size, 0, none⟩ = some (.int .i64 s) := R1.c 0 (by simp)
          have c1 : w1.cell? ⟨w.heap.size, 1, none⟩ = some (.int .i64 p) := R1.c 1 (by simp)
          have c2 : w1.cell? ⟨w.heap.size, 2, none⟩ = some (.int .i64 f) := R1.c 2 (by simp)
          have z0 : w1.frozen? ⟨w.heap.size, 0, none⟩ = false := R1.f 0 (by simp)
          have d0 : w1.cell? ⟨w.heap.size + 1, 0, none⟩ = some (.int .i64 0) := S1.c 0 (by simp)
          have d1 : w1.cell? ⟨w.heap.size + 1, 1, none⟩ = some (.int .i64 0) := S1.c 1 (by simp)
          have d2 : w1.cell? ⟨w.heap.size + 1, 2, none⟩ = some (.int .i64 0) := S1.c 2 (by simp)
          have y0 : w1.frozen? ⟨w.heap.size + 1, 0, none⟩ = false := S1.f 0 (by simp)
          have y1 : w1.frozen? ⟨w.heap.size + 1, 1, none⟩ = false := S1.f 1 (by simp)
          have y2 : w1.frozen? ⟨w.heap.size + 1, 2, none⟩ = false := S1.f 2 (by simp)
          have KB := hide B1
          have KR := hide R1
          have KS := hide S1
          clear b1 B1 R1 S1 R0 S0 B0
          have KR1 := hide ((unhide KR).set 0 (by simp) (.int .i64 1))
          have KS1 := hide ((unhide KS).other (p := ⟨w.heap.size, 0, none⟩) (by simp) (.int .i64 1))
          have KB1 := hide ((unhide KB).setCell (p := ⟨w.heap.size, 0, none⟩) (Nat.le_refl _) (.int .i64 1))
          go_wp2_with (go_at_call 21; refine (within_is _ _ _ _ hk).mono ?_; rintro e w' ⟨rfl, hw⟩; subst w')
          refine (pressed_any _ _ _ (200 - k) _ hpp.1 hpp.2 (by omega) (by omega)).mono ?_
          rintro x w3 ⟨rfl, b3⟩
          have KB1 := hide ((unhide KB1).trans (b3.mono (unhide KB1).size))
          have KS1 := hide ((unhide KS1).below b3)
          clear b3
          go_wp2_with fail
          refine (faultCounted_any _ _ _ hff.1 hff.2).mono ?_
          rintro x w2 ⟨rfl, b2⟩
          have KB2 := hide ((unhide KB1).trans (b2.mono (unhide KB1).size))
          have S2 := (unhide KS1).below b2
          have d0 : w2.cell? ⟨w.heap.size + 1, 0, none⟩ = some (.int .i64 0) := S2.c 0 (by simp)
          have d1 : w2.cell? ⟨w.heap.size + 1, 1, none⟩ = some (.int .i64 0) := S2.c 1 (by simp)
          have d2 : w2.cell? ⟨w.heap.size + 1, 2, none⟩ = some (.int .i64 0) := S2.c 2 (by simp)
          have y0 : w2.frozen? ⟨w.heap.size + 1, 0, none⟩ = false := S2.f 0 (by simp)
          have y1 : w2.frozen? ⟨w.heap.size + 1, 1, none⟩ = false := S2.f 1 (by simp)
          have y2 : w2.frozen? ⟨w.heap.size + 1, 2, none⟩ = false := S2.f 2 (by simp)
          clear b2 S2
          go_wp2_with fail
          refine bodyPost_ret (v := .tuple #[.agg #[.int .i64 (countF (heldP (p + (200 - k))) f).1, .int .i64 (heldP (p + (200 - k))), .int .i64 (countF (heldP (p + (200 - k))) f).2], .bool true]) (by simp [results, Try.results12, go_sem, *]) rfl ⟨rfl, ?_⟩
          repeat (first | exact unhide KB2 | refine Below.setCell ?_ (by simp; try omega) _)

end Go.Proofs.Ytdeodlinjilehap
