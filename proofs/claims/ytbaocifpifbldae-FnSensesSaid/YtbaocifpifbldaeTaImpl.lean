/-
  What the small functions of keeping apart answer in the program: plain answers, at every argument; nothing that was there is written.
-/
import Derived.Test.YtbaocifpifbldaeSmall
import Derived.Test.YtbaocifpifbldaeTaPure
import Derived.Test.YtbaocifpifbldaeFrac
import Derived.Test.YtbaocifpifbldaeBlks
namespace Go.Proofs.Ytbaocifpifbldae
open Go.RowKit

theorem taDr {B : Nat} {w w' : World} (h : Below B w w') (n : Nat) : Below B w (w'.drewN n) := h.trans (bel0d' n)

set_option maxHeartbeats 400000 in
theorem taSize {c : Int} (x : Int) (w : World) (hx : -1000000000 ≤ x ∧ x ≤ 1000000000) (hc : (x.natAbs : Int) = c) :
    Calls Try.prog 98 #[.int .i64 x] w fun e w' => e = .returned (.int .i64 c) ∧ w' = w := by
  subst hc
  by_cases g : x < -x
  all_goals
    go_enter Try.func98, Try.ntmps98
    go_wp2
    go_ret
    exact ⟨ret_int (by omega), rfl⟩

set_option maxRecDepth 20000 in
set_option maxHeartbeats 2000000 in
theorem flierOk_al {b : Bool} (i h c s : Int) (w : World) (hc : avB i h c s = b) :
    Calls Try.prog 80 #[.agg #[.int .i64 i, .int .i64 h, .int .i64 c, .int .i64 s]] w fun e w' => e = .returned (.bool b) ∧ w' = w.alloc (Obj.cells #[.int .i64 i, .int .i64 h, .int .i64 c, .int .i64 s] 143) := by
  subst hc
  rcases four (inB i 1 1000000) (inB h 0 60000) (inB c (-200) 200) (inB s 0 2) with ⟨q1, hv⟩ | ⟨q1, q2, hv⟩ | ⟨q1, q2, q3, hv⟩ | ⟨q1, q2, q3, q4, hv⟩ | ⟨q1, q2, q3, q4, hv⟩
  all_goals
    have HE := hide (show avB i h c s = _ from hv)
    rw [unhide HE]
    clear hv
    go_enter Try.func80, Try.ntmps80
    go_wp2_with ((go_at_call 51; refine (within_is _ _ _ _ (by first | exact q1 | exact q2 | exact q3 | exact q4)).mono ?_; rintro e w' ⟨rfl, hw⟩; subst w'))
    go_ret
    exact ⟨rfl, rfl⟩

set_option maxRecDepth 20000 in
set_option maxHeartbeats 2000000 in
theorem watcherOk_al {b : Bool} (i h c s near wi : Int) (w : World) (hc : (avB i h c s && inB near 0 10000 && inB wi 1 300) = b) :
    Calls Try.prog 76 #[.agg #[.int .i64 i, .int .i64 h, .int .i64 c, .int .i64 s, .int .i64 near, .int .i64 wi]] w fun e w' => e = .returned (.bool b) ∧ w' = (w.alloc (Obj.cells #[.int .i64 i, .int .i64 h, .int .i64 c, .int .i64 s, .int .i64 near, .int .i64 wi] 145)).alloc (Obj.cells #[.int .i64 i, .int .i64 h, .int .i64 c, .int .i64 s] 143) := by
  subst hc
  rcases three (avB i h c s) (inB near 0 10000) (inB wi 1 300) with ⟨q1, hv⟩ | ⟨q1, q2, hv⟩ | ⟨q1, q2, q3, hv⟩ | ⟨q1, q2, q3, hv⟩
  all_goals
    have HE := hide (show (avB i h c s && inB near 0 10000 && inB wi 1 300) = _ from hv)
    rw [unhide HE]
    clear hv
    go_enter Try.func76, Try.ntmps76
    go_wp2_with (first | (go_at_call 80; refine (flierOk_al _ _ _ _ _ (by exact q1)).mono ?_; rintro e w' ⟨rfl, hw⟩; subst w') | (go_at_call 51; refine (within_is _ _ _ _ (by first | exact q2 | exact q3)).mono ?_; rintro e w' ⟨rfl, hw⟩; subst w'))
    go_ret
    exact ⟨rfl, rfl⟩

set_option maxRecDepth 20000 in
set_option maxHeartbeats 2000000 in
theorem seenOk_al {b : Bool} (i h c s f k : Int) (w : World) (hc : tcB i h c f k s = b) :
    Calls Try.prog 78 #[.agg #[.int .i64 i, .int .i64 h, .int .i64 c, .int .i64 s, .int .i64 f, .int .i64 k]] w fun e w' => e = .returned (.bool b) ∧ w' = (w.alloc (Obj.cells #[.int .i64 i, .int .i64 h, .int .i64 c, .int .i64 s, .int .i64 f, .int .i64 k] 149)).alloc (Obj.cells #[.int .i64 i, .int .i64 h, .int .i64 c, .int .i64 s] 143) := by
  subst hc
  rcases three (avB i h c s) (inB f 0 1000000) (inB k (-1000) 1000) with ⟨q1, hv⟩ | ⟨q1, q2, hv⟩ | ⟨q1, q2, q3, hv⟩ | ⟨q1, q2, q3, hv⟩
  all_goals
    have HE := hide (show tcB i h c f k s = _ from hv)
    rw [unhide HE]
    clear hv
    go_enter Try.func78, Try.ntmps78
    go_wp2_with (first | (go_at_call 80; refine (flierOk_al _ _ _ _ _ (by exact q1)).mono ?_; rintro e w' ⟨rfl, hw⟩; subst w') | (go_at_call 51; refine (within_is _ _ _ _ (by first | exact q2 | exact q3)).mono ?_; rintro e w' ⟨rfl, hw⟩; subst w'))
    go_ret
    exact ⟨rfl, rfl⟩

set_option maxRecDepth 20000 in
set_option maxHeartbeats 2000000 in
theorem heightIn_al {r : Int} (i h c s n : Int) (w : World) (hh : -1000 ≤ h ∧ h ≤ 60000) (hk : -1000 ≤ c ∧ c ≤ 1000) (hn : 0 ≤ n ∧ n ≤ 1001000) (hc : h + n * c = r) :
    Calls Try.prog 111 #[.agg #[.int .i64 i, .int .i64 h, .int .i64 c, .int .i64 s], .int .i64 n] w fun e w' => e = .returned (.int .i64 r) ∧ w' = w.alloc (Obj.cells #[.int .i64 i, .int .i64 h, .int .i64 c, .int .i64 s] 143) := by
  subst hc
  have m1 := mulBd (s := n) (d := c) (A := 1001000) (B := 1000) (by omega) (by omega) (by omega) (by omega) (by omega) (by omega)
  go_enter Try.func111, Try.ntmps111
  go_wp2
  go_ret
  exact ⟨rfl, rfl⟩

set_option maxRecDepth 20000 in
set_option maxHeartbeats 2000000 in
theorem standsOver_al {b : Bool} (i h c s j g d t : Int) (w : World) (hc : decide (g < h ∨ h = g ∧ j < i) = b) :
    Calls Try.prog 146 #[.agg #[.int .i64 i, .int .i64 h, .int .i64 c, .int .i64 s], .agg #[.int .i64 j, .int .i64 g, .int .i64 d, .int .i64 t]] w fun e w' => e = .returned (.bool b) ∧ w' = (w.alloc (Obj.cells #[.int .i64 i, .int .i64 h, .int .i64 c, .int .i64 s] 143)).alloc (Obj.cells #[.int .i64 j, .int .i64 g, .int .i64 d, .int .i64 t] 143) := by
  subst hc
  by_cases h1 : g < h
  · have HE : Hid (decide (g < h ∨ h = g ∧ j < i) = true) := hide (by simp [h1])
    rw [unhide HE]
    go_enter Try.func146, Try.ntmps146
    go_wp2
    go_ret
    exact ⟨rfl, rfl⟩
  by_cases h2 : h = g
  · subst h2
    obtain ⟨b, hb⟩ : ∃ b, decide (j < i) = b := ⟨_, rfl⟩
    have HE : Hid (decide (h < h ∨ h = h ∧ j < i) = b) := hide (by simp [← hb])
    rw [unhide HE]
    go_enter Try.func146, Try.ntmps146
    go_wp2
    go_ret
    exact ⟨by rw [← hb]; rfl, rfl⟩
  · have HE : Hid (decide (g < h ∨ h = g ∧ j < i) = false) := hide (by simp [h1, h2])
    rw [unhide HE]
    go_enter Try.func146, Try.ntmps146
    go_wp2
    go_ret
    exact ⟨rfl, rfl⟩

set_option maxRecDepth 20000 in
set_option maxHeartbeats 2000000 in
theorem pushed_al {r : Int} (i h c s n : Int) (w : World) (hk : -1000 ≤ c ∧ c ≤ 1000) (hn : -1000 ≤ n ∧ n ≤ 1000) (hc : c + n = r) :
    Calls Try.prog 145 #[.agg #[.int .i64 i, .int .i64 h, .int .i64 c, .int .i64 s], .int .i64 n] w fun e w' => e = .returned (.agg #[.int .i64 i, .int .i64 h, .int .i64 r, .int .i64 s]) ∧ w' = (w.alloc (Obj.cells #[.int .i64 i, .int .i64 h, .int .i64 r, .int .i64 s] 143)).alloc (Obj.cells #[.int .i64 i, .int .i64 h, .int .i64 r, .int .i64 s] 143) := by
  subst hc
  go_enter Try.func145, Try.ntmps145
  go_wp2
  refine bodyPost_ret (v := .agg #[.int .i64 i, .int .i64 h, .int .i64 (c + n), .int .i64 s]) (by simp [results, Try.results145, go_sem]) rfl ⟨rfl, rfl⟩

set_option maxRecDepth 20000 in
set_option maxHeartbeats 2000000 in
theorem watcherOf_al (i h c s near wi : Int) (w : World) :
    Calls Try.prog 75 #[.agg #[.int .i64 i, .int .i64 h, .int .i64 c, .int .i64 s], .int .i64 near, .int .i64 wi] w fun e w' => e = .returned (.agg #[.int .i64 i, .int .i64 h, .int .i64 c, .int .i64 s, .int .i64 near, .int .i64 wi]) ∧ Below w.heap.size w w' := by
  go_enter Try.func75, Try.ntmps75
  go_wp2
  refine bodyPost_ret (v := .agg #[.int .i64 i, .int .i64 h, .int .i64 c, .int .i64 s, .int .i64 near, .int .i64 wi]) (by simp [results, Try.results75, go_sem]) rfl ⟨rfl, ?_⟩
  exact (by repeat (first | exact Below.refl _ _ | refine Below.alloc ?_ (by simp; try omega) _ | refine Below.setCell ?_ (by simp; try omega) _ | refine taDr ?_ _))

set_option maxRecDepth 20000 in
set_option maxHeartbeats 2000000 in
theorem seenOf_al (i h c f k s : Int) (w : World) :
    Calls Try.prog 82 #[.agg #[.int .i64 i, .int .i64 h, .int .i64 c, .int .i64 f, .int .i64 k, .int .i64 s]] w fun e w' => e = .returned (.agg #[.int .i64 i, .int .i64 h, .int .i64 c, .int .i64 s, .int .i64 f, .int .i64 k]) ∧ Below w.heap.size w w' := by
  go_enter Try.func82, Try.ntmps82
  go_wp2
  refine bodyPost_ret (v := .agg #[.int .i64 i, .int .i64 h, .int .i64 c, .int .i64 s, .int .i64 f, .int .i64 k]) (by simp [results, Try.results82, go_sem]) rfl ⟨rfl, ?_⟩
  exact (by repeat (first | exact Below.refl _ _ | refine Below.alloc ?_ (by simp; try omega) _ | refine Below.setCell ?_ (by simp; try omega) _ | refine taDr ?_ _))

set_option maxRecDepth 20000 in
set_option maxHeartbeats 2000000 in
theorem seenFrom_al (i h c s near wi f k : Int) (w : World) :
    Calls Try.prog 77 #[.agg #[.int .i64 i, .int .i64 h, .int .i64 c, .int .i64 s, .int .i64 near, .int .i64 wi], .int .i64 f, .int .i64 k] w fun e w' => e = .returned (.agg #[.int .i64 i, .int .i64 h, .int .i64 c, .int .i64 s, .int .i64 f, .int .i64 k]) ∧ Below w.heap.size w w' := by
  go_enter Try.func77, Try.ntmps77
  go_wp2
  refine bodyPost_ret (v := .agg #[.int .i64 i, .int .i64 h, .int .i64 c, .int .i64 s, .int .i64 f, .int .i64 k]) (by simp [results, Try.results77, go_sem]) rfl ⟨rfl, ?_⟩
  exact (by repeat (first | exact Below.refl _ _ | refine Below.alloc ?_ (by simp; try omega) _ | refine Below.setCell ?_ (by simp; try omega) _ | refine taDr ?_ _))

set_option maxRecDepth 20000 in
set_option maxHeartbeats 2000000 in
theorem ticks_al {n : Int} {b : Bool} (i h c s f k : Int) (w : World) (hn : tiN i h c f k s = n) (hb : tiB i h c f k s = b) :
    Calls Try.prog 83 #[.agg #[.int .i64 i, .int .i64 h, .int .i64 c, .int .i64 s, .int .i64 f, .int .i64 k]] w fun e w' => e = .returned (.tuple #[.int .i64 n, .bool b]) ∧ w' = ((w.alloc (Obj.cells #[.int .i64 i, .int .i64 h, .int .i64 c, .int .i64 s, .int .i64 f, .int .i64 k] 149)).alloc (Obj.cells #[.int .i64 i, .int .i64 h, .int .i64 c, .int .i64 s, .int .i64 f, .int .i64 k] 149)).alloc (Obj.cells #[.int .i64 i, .int .i64 h, .int .i64 c, .int .i64 s] 143) := by
  subst hn hb
  rcases two (tcB i h c f k s) (decide (0 < k)) with ⟨q1, hv⟩ | ⟨q1, q2, hv⟩ | ⟨q1, q2, hv⟩
  iterate 2
    · have HE := hide (show tiB i h c f k s = _ from hv)
      rw [tiN_no (unhide HE), unhide HE]
      clear hv
      try simp only [decide_eq_false_iff_not] at q2
      go_enter Try.func83, Try.ntmps83
      go_wp2_with ((go_at_call 78; refine (seenOk_al _ _ _ _ _ _ _ (by exact q1)).mono ?_; rintro e w' ⟨rfl, hw⟩; subst w'))
      go_ret2
      exact ⟨rfl, rfl⟩
  have HE := hide (show tiB i h c f k s = _ from hv)
  rw [tiN_yes (unhide HE), unhide HE]
  clear hv
  have t1 := tcB_facts q1
  have t2 := t1.2.1
  have t3 := t1.2.2
  simp only [decide_eq_true_eq] at q2
  have t4 := tiQ t2.1 t2.2 q2 t3.2
  clear t1
  go_enter Try.func83, Try.ntmps83
  go_wp2_with ((go_at_call 78; refine (seenOk_al _ _ _ _ _ _ _ (by exact q1)).mono ?_; rintro e w' ⟨rfl, hw⟩; subst w'))
  go_ret2
  exact ⟨rfl, rfl⟩

end Go.Proofs.Ytbaocifpifbldae
